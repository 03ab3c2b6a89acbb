/-
  Own text: the chain in which all that are alive have all: contract of the state's ready.
-/
import Derived.Test.YtigojnpjpagfjaaDoorVNext
namespace Go.Proofs.YtigojnpjpagfjaaDoor.M
open Go.ChangeShapes Go.WideShapes Go.ChangeAt Go.RowKit

theorem cell_bel0 {W W' : World} {p : Addr} {v : Value} (hb : Below W.heap.size W W') (h : W.cell? p = some v) : W'.cell? p = some v := (hb.cell (World.block_lt_of_cell? _ _ h)).trans h

theorem Bl.out0 {w W : World} (h : Bl w W) : Below w.heap.size w W := h

/-- .. and an empty box stands there. -/
def Bx0 (w : World) (x : Nat) (W : World) : Prop := Bl w W ∧ W.heap[x]? = some (.cells #[.int .i64 0, .slice none 0 0] 28)

theorem Bx0.stays (w : World) (x : Nat) : Stays (Bx0 w x) := fun W W' h hb => ⟨Bl.stays w W W' h.1 hb, (hb.block x (Array.getElem?_eq_some_iff.1 h.2).1).trans h.2⟩

/-- .. a chain in its box, its members in memory of their own. -/
def Bw (w : World) (x : Nat) (e : Int) (q : Option Addr) (n d : Nat) (ms : List Mb) (W : World) : Prop := Below w.heap.size w W ∧ RdM W q n d ms ∧ At 28 W x #[.int .i64 e, .slice q n d]

theorem Bw.stays (w : World) (x : Nat) (e : Int) (q : Option Addr) (n d : Nat) (ms : List Mb) : Stays (Bw w x e q n d ms) := fun _ _ h hb => ⟨h.1.trans (hb.mono h.1.size), h.2.1.below hb, h.2.2.below hb⟩

/-- Members, of which one is ready now, if it can be. -/
def rdStep (e : Int) (ms : List Mb) (nd : Int) : List Mb :=
  match readyR e ms nd with
  | .ok (_, ms') => ms'
  | .error _ => ms

/-- Members, of which all are ready that are alive. -/
def readyA (al : Nat) (e : Int) (ms : List Mb) : List Mb := (allL (bt al) 64).foldl (rdStep e) ms

theorem readyR_ok {e e' : Int} {ms ms' : List Mb} {nd : Int} (h : readyR e ms nd = .ok (e', ms')) : e' = e ∧ ms'.length = ms.length := by
  unfold readyR at h
  repeat' split at h
  all_goals cases h
  exact ⟨rfl, List.length_set⟩

theorem vready_err {e k : Int} {ms : List Mb} {nd : Int} (h : readyR e ms nd = .error k) : (k == 0) = false := by
  unfold readyR at h
  repeat' split at h
  all_goals cases h
  all_goals rfl

theorem rdStep_len (e : Int) (ms : List Mb) (nd : Int) : (rdStep e ms nd).length = ms.length := by
  unfold rdStep
  split
  · next h => exact (readyR_ok h).2
  · rfl

theorem results_c1 {fn : Func} {p : Tmp} (h : fn.results = #[.cell p 28]) (tmps : Array Value) (w : World) (g : Nat) (x y : Value) (hp : tmps.getD p undef = .pointer (some ⟨g, 0, none⟩)) (hg : At 28 w g #[x, y]) :
    (results fn tmps).run Tryd.prog w = .ok (.agg #[x, y]) w := by
  have hp' : tmps[p]?.getD undef = .pointer (some ⟨g, 0, none⟩) := by simpa using hp
  simp [results, h, hp', asAddr, run_loadVar_row w g 28 28 _ (0, 0) _ hg Tryd.underlying28 rfl sizeC]

theorem Ow.block {k : IntKind} {e : TypeId} {w : World} {B : Nat} {p : Option Addr} {n c : Nat} {xs : List Int} (h : Ow k e w B p n c xs) (h0 : 0 < n) : ∀ a, p = some a → B ≤ a.block := by
  intro a ha
  rcases h.own with ⟨h1, _⟩ | ho
  · omega
  · rcases ho.2 with ⟨hv, h1⟩ | ⟨g, cap, cur, hv, hg, r⟩
    · omega
    · cases hv
      cases ha
      exact hg

theorem Rd.put2 {k : IntKind} {W : World} {p : Option Addr} {n c b : Nat} {xs : List Int} (h : Rd k W p n c xs) (x y : Value) (hq : ∀ a, p = some a → 0 < n → a.block ≠ b) : Rd k ((W.setCell ⟨b, 0, none⟩ x).setCell ⟨b, 1, none⟩ y) p n c xs := by
  refine ⟨h.len, h.cap, h.nil, fun hn => ?_⟩
  obtain ⟨g, o, rfl, hc⟩ := h.cells hn
  have hne := hq _ rfl hn
  have e : ∀ j, ((W.setCell ⟨b, 0, none⟩ x).setCell ⟨b, 1, none⟩ y).cell? ⟨g, j, none⟩ = W.cell? ⟨g, j, none⟩ := fun j => by
    rw [World.cell?_setCell_other (h := fun h => hne (congrArg Addr.block h).symm), World.cell?_setCell_other (h := fun h => hne (congrArg Addr.block h).symm)]
  exact ⟨g, o, rfl, fun i hi => by rw [e]; exact hc i hi⟩

theorem drop_cons_i {l : List Int} {k : Nat} (h : k < l.length) (f : List Mb → Int → List Mb) (m : List Mb) : (l.drop k).foldl f m = (l.drop (k + 1)).foldl f (f m (l.getD k 0)) := by
  rw [drop_i h, List.foldl_cons]

set_option linter.unusedSimpArgs false in
set_option maxRecDepth 20000 in
set_option maxHeartbeats 8000000 in
theorem ready_any (e : Int) (p : Option Addr) (n c : Nat) (ms : List Mb) (al : Nat) (h0 h1 h2 h3 h4 h5 v0 v1 v2 : Int) (w : World) (hal : al < 18446744073709551616) (hr : RdM w p n c ms) (hn : n ≤ 5864062014805) :
    Calls Tryd.prog 44 #[.agg #[.int .i64 e, .slice p n c, .int .u64 (al : Int), .int .i64 h0, .int .i64 h1, .int .i64 h2, .int .i64 h3, .int .i64 h4, .int .i64 h5, .int .i64 v0, .int .i64 v1, .int .i64 v2]] w fun r w' => ∃ q d, r = .returned (.agg #[.int .i64 e, .slice q n d]) ∧ (∀ a, q = some a → 0 < n → w.heap.size ≤ a.block) ∧ RdM w' q n d (readyA al e ms) ∧ Below w.heap.size w w' := by
  have HL : Hid (ms.length = n) := hr.len
  have hb0 : Below w.heap.size w ((w.alloc (.cells #[.int .i64 e, .slice p n c, .int .u64 (al : Int), .int .i64 h0, .int .i64 h1, .int .i64 h2, .int .i64 h3, .int .i64 h4, .int .i64 h5, .int .i64 v0, .int .i64 v1, .int .i64 v2] 72)).alloc (.cells #[.int .i64 0, .slice none 0 0] 28)) := ((Below.refl _ _).alloc (Nat.le_refl _) _).alloc (by simp) _
  have hS : At 72 ((w.alloc (.cells #[.int .i64 e, .slice p n c, .int .u64 (al : Int), .int .i64 h0, .int .i64 h1, .int .i64 h2, .int .i64 h3, .int .i64 h4, .int .i64 h5, .int .i64 v0, .int .i64 v1, .int .i64 v2] 72)).alloc (.cells #[.int .i64 0, .slice none 0 0] 28)) w.heap.size #[.int .i64 e, .slice p n c, .int .u64 (al : Int), .int .i64 h0, .int .i64 h1, .int .i64 h2, .int .i64 h3, .int .i64 h4, .int .i64 h5, .int .i64 v0, .int .i64 v1, .int .i64 v2] := (At.new 72 w _).alloc _
  have hZ : At 28 ((w.alloc (.cells #[.int .i64 e, .slice p n c, .int .u64 (al : Int), .int .i64 h0, .int .i64 h1, .int .i64 h2, .int .i64 h3, .int .i64 h4, .int .i64 h5, .int .i64 v0, .int .i64 v1, .int .i64 v2] 72)).alloc (.cells #[.int .i64 0, .slice none 0 0] 28)) (w.heap.size + 1) #[.int .i64 0, .slice none 0 0] := At.moved (by simp) (At.new 28 _ _)
  have hr0 := hr.below hb0
  obtain ⟨R, HR⟩ : ∃ x, Hid (readyA al e ms = x) := ⟨_, rfl⟩
  rw [HR.out]
  obtain ⟨xs, HX⟩ : ∃ x, Hid (allL (bt al) 64 = x) := ⟨_, rfl⟩
  obtain ⟨N, HN⟩ : ∃ x, Hid (pop al = x) := ⟨_, rfl⟩
  have HR1 : Hid (xs.foldl (rdStep e) ms = R) := by unfold Hid; rw [← HR.out, ← HX.out]; rfl
  have hN64 : N ≤ 64 := by rw [← HN.out]; exact pop_le al
  have hxl0 : Hid (xs.length = N) := by unfold Hid; rw [← HX.out, ← HN.out, allL_len]; rfl
  have hAl := fun W => all_any al W hal
  rw [HX.out, HN.out] at hAl
  clear hr HR HX HN
  generalize hw : w.heap.size = b at *
  obtain ⟨a0, a1, a2, ⟨a3, a4, a5, a6, a7, a8⟩, a9, a10, a11⟩ := hS.state
  go_enter Tryd.func44, Tryd.ntmps44
  go_wp2_with fail
  have hs0 : ((w.alloc (.cells #[.int .i64 e, .slice p n c, .int .u64 (al : Int), .int .i64 h0, .int .i64 h1, .int .i64 h2, .int .i64 h3, .int .i64 h4, .int .i64 h5, .int .i64 v0, .int .i64 v1, .int .i64 v2] 72)).alloc (.cells #[.int .i64 0, .slice none 0 0] 28)).heap.size = b + 2 := by simp [hw]
  generalize ((w.alloc (.cells #[.int .i64 e, .slice p n c, .int .u64 (al : Int), .int .i64 h0, .int .i64 h1, .int .i64 h2, .int .i64 h3, .int .i64 h4, .int .i64 h5, .int .i64 v0, .int .i64 v1, .int .i64 v2] 72)).alloc (.cells #[.int .i64 0, .slice none 0 0] 28)) = w0 at *
  have hS0 : Bl w0 w0.drew := (Below.refl _ _).drew
  refine wp_region_det [0, 1, 2, 3, 4, 5, 7] (Bl w0) (Bl w0) (by kernel_rfl) hS0 ?_
  refine wpDet_take ?vA0 (Bl.stays w0) (fun _ h => h) (i := 0) rfl (by kernel_rfl) (by kernel_rfl) (by kernel_rfl) (by kernel_rfl) (fun _ _ _ h => h) (Gives.value (by rfl) ?yA0) ?rA0
  case yA0 => (intro w' hSw; have za0 := cell_bel0 hSw a0; have za1 := cell_bel0 hSw a1; go_simp; try with_reducible rfl)
  (try simp only [Act.put, List.getElem_toArray, List.getElem_cons_zero, List.getElem_cons_succ, List.setIfInBounds_toArray, List.set_cons_zero, List.set_cons_succ])
  refine wpDet_take ?vA1 (Bl.stays w0) (fun _ h => h) (i := 1) rfl (by kernel_rfl) (by kernel_rfl) (by kernel_rfl) (by kernel_rfl) (fun _ _ _ h => h) (Gives.value (by rfl) ?yA1) ?rA1
  case yA1 => (intro w' hSw; have za0 := cell_bel0 hSw a0; have za1 := cell_bel0 hSw a1; go_simp; try with_reducible rfl)
  (try simp only [Act.put, List.getElem_toArray, List.getElem_cons_zero, List.getElem_cons_succ, List.setIfInBounds_toArray, List.set_cons_zero, List.set_cons_succ])
  refine wpDet_take ?vA2 (Bl.stays w0) (fun _ h => h) (i := 2) rfl (by kernel_rfl) (by kernel_rfl) (by kernel_rfl) (by kernel_rfl) (fun _ _ _ h => h) (Gives.value (by rfl) ?yA2) ?rA2
  case yA2 => (intro w' hSw; have za0 := cell_bel0 hSw a0; have za1 := cell_bel0 hSw a1; go_simp; try with_reducible rfl)
  (try simp only [Act.put, List.getElem_toArray, List.getElem_cons_zero, List.getElem_cons_succ, List.setIfInBounds_toArray, List.set_cons_zero, List.set_cons_succ])
  refine wpDet_take ?vA3 (Bl.stays w0) (fun _ h => h) (i := 3) rfl (by kernel_rfl) (by kernel_rfl) (by kernel_rfl) (by kernel_rfl) (fun _ _ _ h => h) (Gives.value (by rfl) ?yA3) ?rA3
  case yA3 => (intro w' hSw; have za0 := cell_bel0 hSw a0; have za1 := cell_bel0 hSw a1; go_simp; try with_reducible rfl)
  (try simp only [Act.put, List.getElem_toArray, List.getElem_cons_zero, List.getElem_cons_succ, List.setIfInBounds_toArray, List.set_cons_zero, List.set_cons_succ])
  refine wpDet_take ?vA4 (Bl.stays w0) (fun _ h => h) (i := 4) rfl (by kernel_rfl) (by kernel_rfl) (by kernel_rfl) (by kernel_rfl) (fun _ _ _ h => h) (Gives.value (by rfl) ?yA4) ?rA4
  case yA4 => (intro w' hSw; have za0 := cell_bel0 hSw a0; have za1 := cell_bel0 hSw a1; go_simp; try with_reducible rfl)
  (try simp only [Act.put, List.getElem_toArray, List.getElem_cons_zero, List.getElem_cons_succ, List.setIfInBounds_toArray, List.set_cons_zero, List.set_cons_succ])
  refine wpDet_take ?vA5 (Bl.stays w0) (fun _ h => h) (i := 5) rfl (by kernel_rfl) (by kernel_rfl) (by kernel_rfl) (by kernel_rfl) (fun _ _ _ h => h) (Gives.value (by rfl) ?yA5) ?rA5
  case yA5 => (intro w' hSw; have za0 := cell_bel0 hSw a0; have za1 := cell_bel0 hSw a1; go_simp; try with_reducible rfl)
  (try simp only [Act.put, List.getElem_toArray, List.getElem_cons_zero, List.getElem_cons_succ, List.setIfInBounds_toArray, List.set_cons_zero, List.set_cons_succ])
  refine wpDet_ready (rs := [6, 8]) (by kernel_rfl) (by simp) (AllDet.cons rfl (fun V hV K hK => ?_) (AllDet.cons rfl (fun V hV K hK => ?_) AllDet.nil))
  · rw [if_pos (by rfl)]
    have hCv := cloneM_any p n c ms V (hr0.below hV) hn
    refine wp_enterE 16 #[.slice p n c] (by first | (go_simp; done) | (go_simp; rfl)) (fun v W => Copy W V.heap.size n ms v ∧ Below V.heap.size V W) (hCv.mono fun e' w' hh => by obtain ⟨v, h1, h2, h3⟩ := hh; exact ⟨v, h1, h2, h3⟩) ?_
    rintro v7 V7 ⟨hcp, hb7⟩
    obtain ⟨q, d, rfl, hq, hrq⟩ := hcp.tell HL.out
    have hqw : ∀ a, q = some a → 0 < n → w0.heap.size ≤ a.block := fun a ha h0 => Nat.le_trans (Bl.out0 hV).size (hq a ha h0)
    refine hK.out (Br w0 q n d ms) _ _ (Br.stays w0 _ _ _ _) (fun _ _ h => h.1) ⟨Bl.stays w0 V V7 hV hb7, hrq⟩ ?_
    clear hK K hCv hcp hb7 hV hrq hq
    (try simp only [Act.put, List.getElem_toArray, List.getElem_cons_zero, List.getElem_cons_succ, List.setIfInBounds_toArray, List.set_cons_zero, List.set_cons_succ])
    refine wpDet_take ?vB7 (Br.stays w0 _ _ _ _) (fun _ h => h.1) (i := 7) rfl (by kernel_rfl) (by kernel_rfl) (by kernel_rfl) (by kernel_rfl) (fun _ _ _ h => h) (Gives.value (by rfl) ?yB7) ?rB7
    case yB7 => (intro w' hSw; go_simp; try with_reducible rfl)
    (try simp only [Act.put, List.getElem_toArray, List.getElem_cons_zero, List.getElem_cons_succ, List.setIfInBounds_toArray, List.set_cons_zero, List.set_cons_succ])
    refine wpDet_ready (rs := [8]) (by kernel_rfl) (by simp) (AllDet.cons rfl (fun V hV K hK => ?_) AllDet.nil)
    rw [if_pos (by rfl)]
    refine wp_value (.pointer (some ⟨V.heap.size, 0, none⟩)) (V.alloc (.cells #[.int .i64 0, .slice none 0 0] 28)) (by first | (go_simp; done) | (go_simp; rfl)) ?_
    have hqx : ∀ a, q = some a → 0 < n → a.block ≠ V.heap.size := fun a ha h0 => by
      obtain ⟨g, o, e1, hc⟩ := hV.2.cells h0
      rw [ha] at e1
      cases e1
      exact Nat.ne_of_lt (World.block_lt_of_cell? _ _ (hc 0 h0).1)
    have hxl : w0.heap.size ≤ V.heap.size := (Bl.out0 hV.1).size
    refine hK.out (fun W => Br w0 q n d ms W ∧ Bx0 w0 V.heap.size W) _ _ ((Br.stays w0 _ _ _ _).and (Bx0.stays w0 _)) (fun _ _ h => h.1.1) ⟨Br.stays w0 _ _ _ _ V _ hV ((Below.refl _ _).alloc (Nat.le_refl _) _), Bl.stays w0 V _ hV.1 ((Below.refl _ _).alloc (Nat.le_refl _) _), heap_alloc_new _ _⟩ ?_
    clear hK K hV
    generalize V.heap.size = x at *
    (try simp only [Act.put, List.getElem_toArray, List.getElem_cons_zero, List.getElem_cons_succ, List.setIfInBounds_toArray, List.set_cons_zero, List.set_cons_succ])
    refine wpDet_ready (rs := [9]) (by kernel_rfl) (by simp) (AllDet.cons rfl (fun V hV K hK => ?_) AllDet.nil)
    rw [if_pos (by rfl)]
    have hAt : At 28 V x #[.int .i64 0, .slice none 0 0] := hV.2.2
    have y0 := cell_row hV.2.2 (j := 0) (v := .int .i64 0) rfl
    have y1 := cell_row hV.2.2 (j := 1) (v := .slice none 0 0) rfl
    have g0 := frozen_of_row V x 0 _ _ hV.2.2
    have g1 := frozen_of_row V x 1 _ _ hV.2.2
    have hth : V.there x 0 2 := fun j hj => by rw [Nat.zero_add]; match j, hj with | 0, _ => exact ⟨by rw [y0]; rfl, g0⟩ | 1, _ => exact ⟨by rw [y1]; rfl, g1⟩
    refine wp_store_mid 28 _ _ rfl x 0 #[.int .i64 e, .slice q n d] rfl rfl hth sizeC (one2 _ _ _ _) ?_
    have hz : Bw w0 x e q n d ms ((V.setCell ⟨x, 0, none⟩ (.int .i64 e)).setCell ⟨x, 1, none⟩ (.slice q n d)) := ⟨Gr.putB (Bl.out0 hV.1.1) hxl _ _, hV.1.2.put _ _ (fun a ha h0 => hqx a ha h0), hAt.put2 _ _⟩
    refine hK.out (Bw w0 x e q n d ms) _ _ (Bw.stays _ _ _ _ _ _ _) (no_lean (by kernel_rfl)) hz ?_
    clear hK K hV hth hz y0 y1 g0 g1 hAt
    (try simp only [Act.put, List.getElem_toArray, List.getElem_cons_zero, List.getElem_cons_succ, List.setIfInBounds_toArray, List.set_cons_zero, List.set_cons_succ])
    refine wpDet_done (by kernel_rfl) (fun W3 hV => ?_) _
    obtain ⟨hb3, rq, hK3⟩ := hV
    have hS3 := hS.below hb3
    have hZ3 := hZ.below hb3
    have hB3 := hb0.trans (hb3.mono (by have := hb0.size; omega))
    have hx3 : x < W3.heap.size := hK3.lt
    clear hS hZ hb0 hb3 hS0 hr0 a0 a1 a2 a3 a4 a5 a6 a7 a8 a9 a10 a11
    obtain ⟨a0, a1, a2, ⟨a3, a4, a5, a6, a7, a8⟩, a9, a10, a11⟩ := hS3.state
    go_wp2_with fail
    refine (hAl _).mono ?_
    rintro r w4 ⟨pa, ca, rfl, hA4, hb4⟩
    have hpa : ∀ a, pa = some a → 0 < N → a.block ≠ x := fun a ha h0 => by have := hA4.block h0 a ha; omega
    have hZ4 := hZ3.below hb4
    have hK4 := hK3.below hb4
    have rq4 := rq.below hb4
    have hB4 := hB3.trans (hb4.mono (by have := hB3.size; omega))
    clear hS3 hZ3 hK3 rq hB3 hAl hb4 a0 a1 a2 a3 a4 a5 a6 a7 a8 a9 a10 a11
    go_wp2_with fail
    go_loopw [20] (fun i wr => ∃ (k : Nat) (q' : Option Addr) (d' : Nat) (ms' : List Mb), k ≤ N ∧ i = .int .i64 k ∧ Hid ((xs.drop k).foldl (rdStep e) ms' = R) ∧ RdM wr q' n d' ms' ∧ At 28 wr x #[.int .i64 e, .slice q' n d'] ∧ (∀ a, q' = some a → 0 < n → b + 2 ≤ a.block ∧ a.block ≠ x) ∧ Rd .i64 wr pa N ca xs ∧ At 28 wr (b + 1) #[.int .i64 0, .slice none 0 0] ∧ Below b w wr) (fun i _ => N - (intOf i).toNat)
    case atStart => exact ⟨0, q, d, ms, Nat.zero_le _, rfl, HR1, rq4, hK4, fun a ha h0 => ⟨by have := hqw a ha h0; omega, hqx a ha h0⟩, hA4.rd, hZ4, hB4⟩
    case round =>
      clear HR1 rq4 hK4 hqw hqx hA4 hZ4 hB4
      obtain ⟨k, q', d', ms', hk, rfl, HR, hr, hK, hq', hA, hZ, hb⟩ := hrel
      have hsz : b ≤ wr.heap.size := by have := hb.size; omega
      obtain ⟨t0, t1⟩ := hK.two
      by_cases h : k < N
      · have hN0 : 0 < N := by omega
        obtain ⟨ga, oa, rfl, hc⟩ := hA.cells hN0
        have hgx : ga ≠ x := hpa _ rfl hN0
        have g1 := hc k h
        have hd := drop_cons_i (l := xs) (k := k) (by rw [hxl0.out]; exact h) (rdStep e) ms'
        have hR := HR.out
        rw [hd] at hR
        clear hc HR hd
        generalize xs.getD k 0 = nd at *
        have hRd := fun W hx => Ready_any e q' n d' ms' nd W hx hn
        cases hcu : readyR e ms' nd with
        | error kk =>
          have HR : Hid ((xs.drop (k + 1)).foldl (rdStep e) ms' = R) := by
            unfold Hid; rw [← hR]; unfold rdStep; rw [hcu]
          have hk0 := vready_err hcu
          rw [hcu] at hRd
          clear hR hcu
          go_wp2_with fail
          refine (hRd _ hr).mono ?_
          rintro r w5 ⟨x5, rfl, ht5, hb5⟩
          obtain rfl := ht5
          have hba := below_alloc w5 (.cells #[.int .i64 0, .slice none 0 0] 28)
          have hB5 := hb.trans (hb5.mono hsz)
          clear hRd
          go_wp2_with fail
          go_roundw
          case rel => exact ⟨k + 1, q', d', ms', by omega, by go_num, HR, (hr.below hb5).below hba, (hK.below hb5).below hba, hq', (hA.below hb5).below hba, (hZ.below hb5).below hba, hB5.trans (hba.mono (by have := hB5.size; omega))⟩
          case measure => simp [intOf]; omega
        | ok em =>
          obtain ⟨e2, ms2⟩ := em
          obtain ⟨he2, hl2⟩ := readyR_ok hcu
          have HL2 : Hid (ms2.length = n) := by unfold Hid; rw [hl2]; exact hr.len
          subst he2
          have HR : Hid ((xs.drop (k + 1)).foldl (rdStep e2) ms2 = R) := by
            unfold Hid; rw [← hR]; unfold rdStep; rw [hcu]
          rw [hcu] at hRd
          clear hR hcu hl2
          go_wp2_with fail
          refine (hRd _ hr).mono ?_
          rintro r w5 ⟨x5, rfl, ht5, hb5⟩
          obtain ⟨q5, c5, rfl, hq5, hr5⟩ := ht5
          rw [HL2.out] at hq5 hr5 ⊢
          have hba := below_alloc w5 (.cells #[.int .i64 e2, .slice q5 n c5] 28)
          have hB5 := hb.trans (hb5.mono hsz)
          have hB6 := hB5.trans (hba.mono (by have := hB5.size; omega))
          have hK6 := (hK.below hb5).below hba
          have hA6 := (hA.below hb5).below hba
          have hZ6 := (hZ.below hb5).below hba
          have hr6 := hr5.below hba
          have hN6 := At.new 28 w5 #[.int .i64 e2, .slice q5 n c5]
          obtain ⟨n0, n1⟩ := hN6.two
          obtain ⟨u0, u1⟩ := hK6.two
          obtain ⟨f0, f1, f2, f3⟩ := hK6.free4
          have hxw : x < wr.heap.size := hK.lt
          have hq6 : ∀ a, q5 = some a → 0 < n → b + 2 ≤ a.block ∧ a.block ≠ x := fun a ha h0 => by
            have := hq5 a ha h0
            have h2 := hZ.lt
            omega
          clear hRd t0 t1 hK hr hb5 hba hB5 hxw hN6
          go_wp2_with fail
          go_roundw
          case rel => exact ⟨k + 1, q5, c5, ms2, by omega, by go_num, HR, hr6.put _ _ (fun a ha h0 => (hq6 a ha h0).2), hK6.put2 _ _, hq6, hA6.put2 _ _ hpa, hZ6.other2 x (by omega) _ _, Below.put2 hB6 (by omega) _ _⟩
          case measure => simp [intOf]; omega
      · have HR2 : Hid (ms' = R) := by
          unfold Hid; rw [← HR.out, List.drop_of_length_le (by rw [hxl0.out]; omega)]; rfl
        obtain ⟨z0, z1⟩ := hZ.two
        obtain ⟨f0, f1, f2, f3⟩ := hZ.free4
        clear HR
        go_wp2_with fail
        exact bodyPost_ret (results_c1 (p := 2) rfl _ _ (b + 1) _ _ rfl (hZ.put2 _ _)) rfl ⟨q', d', rfl, fun a ha h0 => by have := (hq' a ha h0).1; omega, by rw [← HR2.out]; exact hr.put _ _ (fun a ha h0 => by have := (hq' a ha h0).1; omega), Below.put2 hb (by omega) _ _⟩
  · rw [if_pos (by rfl)]
    refine wp_value (.pointer (some ⟨V.heap.size, 0, none⟩)) (V.alloc (.cells #[.int .i64 0, .slice none 0 0] 28)) (by first | (go_simp; done) | (go_simp; rfl)) ?_
    have hxl : w0.heap.size ≤ V.heap.size := (Bl.out0 hV).size
    refine hK.out (Bx0 w0 V.heap.size) _ _ (Bx0.stays w0 _) (fun _ _ h => h.1) ⟨Bl.stays w0 V _ hV ((Below.refl _ _).alloc (Nat.le_refl _) _), heap_alloc_new _ _⟩ ?_
    clear hK K hV
    generalize V.heap.size = x at *
    (try simp only [Act.put, List.getElem_toArray, List.getElem_cons_zero, List.getElem_cons_succ, List.setIfInBounds_toArray, List.set_cons_zero, List.set_cons_succ])
    refine wpDet_ready (rs := [6]) (by kernel_rfl) (by simp) (AllDet.cons rfl (fun V hV K hK => ?_) AllDet.nil)
    rw [if_pos (by rfl)]
    have hCv := cloneM_any p n c ms V (hr0.below hV.1) hn
    refine wp_enterE 16 #[.slice p n c] (by first | (go_simp; done) | (go_simp; rfl)) (fun v W => Copy W V.heap.size n ms v ∧ Below V.heap.size V W) (hCv.mono fun e' w' hh => by obtain ⟨v, h1, h2, h3⟩ := hh; exact ⟨v, h1, h2, h3⟩) ?_
    rintro v7 V7 ⟨hcp, hb7⟩
    obtain ⟨q, d, rfl, hq, hrq⟩ := hcp.tell HL.out
    have hqx : ∀ a, q = some a → 0 < n → a.block ≠ x := fun a ha h0 => Nat.ne_of_gt (Nat.lt_of_lt_of_le (Array.getElem?_eq_some_iff.1 hV.2).1 (hq a ha h0))
    have hqw : ∀ a, q = some a → 0 < n → w0.heap.size ≤ a.block := fun a ha h0 => Nat.le_trans (Bl.out0 hV.1).size (hq a ha h0)
    refine hK.out (fun W => Br w0 q n d ms W ∧ Bx0 w0 x W) _ _ ((Br.stays w0 _ _ _ _).and (Bx0.stays w0 _)) (fun _ _ h => h.1.1) ⟨⟨Bl.stays w0 V V7 hV.1 hb7, hrq⟩, Bx0.stays w0 x V V7 hV hb7⟩ ?_
    clear hK K hCv hcp hb7 hV hrq hq
    (try simp only [Act.put, List.getElem_toArray, List.getElem_cons_zero, List.getElem_cons_succ, List.setIfInBounds_toArray, List.set_cons_zero, List.set_cons_succ])
    refine wpDet_take ?vC7 ((Br.stays w0 _ _ _ _).and (Bx0.stays w0 _)) (fun _ h => h.1.1) (i := 7) rfl (by kernel_rfl) (by kernel_rfl) (by kernel_rfl) (by kernel_rfl) (fun _ _ _ h => h) (Gives.value (by rfl) ?yC7) ?rC7
    case yC7 => (intro w' hSw; go_simp; try with_reducible rfl)
    (try simp only [Act.put, List.getElem_toArray, List.getElem_cons_zero, List.getElem_cons_succ, List.setIfInBounds_toArray, List.set_cons_zero, List.set_cons_succ])
    refine wpDet_ready (rs := [9]) (by kernel_rfl) (by simp) (AllDet.cons rfl (fun V hV K hK => ?_) AllDet.nil)
    rw [if_pos (by rfl)]
    have hAt : At 28 V x #[.int .i64 0, .slice none 0 0] := hV.2.2
    have y0 := cell_row hV.2.2 (j := 0) (v := .int .i64 0) rfl
    have y1 := cell_row hV.2.2 (j := 1) (v := .slice none 0 0) rfl
    have g0 := frozen_of_row V x 0 _ _ hV.2.2
    have g1 := frozen_of_row V x 1 _ _ hV.2.2
    have hth : V.there x 0 2 := fun j hj => by rw [Nat.zero_add]; match j, hj with | 0, _ => exact ⟨by rw [y0]; rfl, g0⟩ | 1, _ => exact ⟨by rw [y1]; rfl, g1⟩
    refine wp_store_mid 28 _ _ rfl x 0 #[.int .i64 e, .slice q n d] rfl rfl hth sizeC (one2 _ _ _ _) ?_
    have hz : Bw w0 x e q n d ms ((V.setCell ⟨x, 0, none⟩ (.int .i64 e)).setCell ⟨x, 1, none⟩ (.slice q n d)) := ⟨Gr.putB (Bl.out0 hV.1.1) hxl _ _, hV.1.2.put _ _ (fun a ha h0 => hqx a ha h0), hAt.put2 _ _⟩
    refine hK.out (Bw w0 x e q n d ms) _ _ (Bw.stays _ _ _ _ _ _ _) (no_lean (by kernel_rfl)) hz ?_
    clear hK K hV hth hz y0 y1 g0 g1 hAt
    (try simp only [Act.put, List.getElem_toArray, List.getElem_cons_zero, List.getElem_cons_succ, List.setIfInBounds_toArray, List.set_cons_zero, List.set_cons_succ])
    refine wpDet_done (by kernel_rfl) (fun W3 hV => ?_) _
    obtain ⟨hb3, rq, hK3⟩ := hV
    have hS3 := hS.below hb3
    have hZ3 := hZ.below hb3
    have hB3 := hb0.trans (hb3.mono (by have := hb0.size; omega))
    have hx3 : x < W3.heap.size := hK3.lt
    clear hS hZ hb0 hb3 hS0 hr0 a0 a1 a2 a3 a4 a5 a6 a7 a8 a9 a10 a11
    obtain ⟨a0, a1, a2, ⟨a3, a4, a5, a6, a7, a8⟩, a9, a10, a11⟩ := hS3.state
    go_wp2_with fail
    refine (hAl _).mono ?_
    rintro r w4 ⟨pa, ca, rfl, hA4, hb4⟩
    have hpa : ∀ a, pa = some a → 0 < N → a.block ≠ x := fun a ha h0 => by have := hA4.block h0 a ha; omega
    have hZ4 := hZ3.below hb4
    have hK4 := hK3.below hb4
    have rq4 := rq.below hb4
    have hB4 := hB3.trans (hb4.mono (by have := hB3.size; omega))
    clear hS3 hZ3 hK3 rq hB3 hAl hb4 a0 a1 a2 a3 a4 a5 a6 a7 a8 a9 a10 a11
    go_wp2_with fail
    go_loopw [20] (fun i wr => ∃ (k : Nat) (q' : Option Addr) (d' : Nat) (ms' : List Mb), k ≤ N ∧ i = .int .i64 k ∧ Hid ((xs.drop k).foldl (rdStep e) ms' = R) ∧ RdM wr q' n d' ms' ∧ At 28 wr x #[.int .i64 e, .slice q' n d'] ∧ (∀ a, q' = some a → 0 < n → b + 2 ≤ a.block ∧ a.block ≠ x) ∧ Rd .i64 wr pa N ca xs ∧ At 28 wr (b + 1) #[.int .i64 0, .slice none 0 0] ∧ Below b w wr) (fun i _ => N - (intOf i).toNat)
    case atStart => exact ⟨0, q, d, ms, Nat.zero_le _, rfl, HR1, rq4, hK4, fun a ha h0 => ⟨by have := hqw a ha h0; omega, hqx a ha h0⟩, hA4.rd, hZ4, hB4⟩
    case round =>
      clear HR1 rq4 hK4 hqw hqx hA4 hZ4 hB4
      obtain ⟨k, q', d', ms', hk, rfl, HR, hr, hK, hq', hA, hZ, hb⟩ := hrel
      have hsz : b ≤ wr.heap.size := by have := hb.size; omega
      obtain ⟨t0, t1⟩ := hK.two
      by_cases h : k < N
      · have hN0 : 0 < N := by omega
        obtain ⟨ga, oa, rfl, hc⟩ := hA.cells hN0
        have hgx : ga ≠ x := hpa _ rfl hN0
        have g1 := hc k h
        have hd := drop_cons_i (l := xs) (k := k) (by rw [hxl0.out]; exact h) (rdStep e) ms'
        have hR := HR.out
        rw [hd] at hR
        clear hc HR hd
        generalize xs.getD k 0 = nd at *
        have hRd := fun W hx => Ready_any e q' n d' ms' nd W hx hn
        cases hcu : readyR e ms' nd with
        | error kk =>
          have HR : Hid ((xs.drop (k + 1)).foldl (rdStep e) ms' = R) := by
            unfold Hid; rw [← hR]; unfold rdStep; rw [hcu]
          have hk0 := vready_err hcu
          rw [hcu] at hRd
          clear hR hcu
          go_wp2_with fail
          refine (hRd _ hr).mono ?_
          rintro r w5 ⟨x5, rfl, ht5, hb5⟩
          obtain rfl := ht5
          have hba := below_alloc w5 (.cells #[.int .i64 0, .slice none 0 0] 28)
          have hB5 := hb.trans (hb5.mono hsz)
          clear hRd
          go_wp2_with fail
          go_roundw
          case rel => exact ⟨k + 1, q', d', ms', by omega, by go_num, HR, (hr.below hb5).below hba, (hK.below hb5).below hba, hq', (hA.below hb5).below hba, (hZ.below hb5).below hba, hB5.trans (hba.mono (by have := hB5.size; omega))⟩
          case measure => simp [intOf]; omega
        | ok em =>
          obtain ⟨e2, ms2⟩ := em
          obtain ⟨he2, hl2⟩ := readyR_ok hcu
          have HL2 : Hid (ms2.length = n) := by unfold Hid; rw [hl2]; exact hr.len
          subst he2
          have HR : Hid ((xs.drop (k + 1)).foldl (rdStep e2) ms2 = R) := by
            unfold Hid; rw [← hR]; unfold rdStep; rw [hcu]
          rw [hcu] at hRd
          clear hR hcu hl2
          go_wp2_with fail
          refine (hRd _ hr).mono ?_
          rintro r w5 ⟨x5, rfl, ht5, hb5⟩
          obtain ⟨q5, c5, rfl, hq5, hr5⟩ := ht5
          rw [HL2.out] at hq5 hr5 ⊢
          have hba := below_alloc w5 (.cells #[.int .i64 e2, .slice q5 n c5] 28)
          have hB5 := hb.trans (hb5.mono hsz)
          have hB6 := hB5.trans (hba.mono (by have := hB5.size; omega))
          have hK6 := (hK.below hb5).below hba
          have hA6 := (hA.below hb5).below hba
          have hZ6 := (hZ.below hb5).below hba
          have hr6 := hr5.below hba
          have hN6 := At.new 28 w5 #[.int .i64 e2, .slice q5 n c5]
          obtain ⟨n0, n1⟩ := hN6.two
          obtain ⟨u0, u1⟩ := hK6.two
          obtain ⟨f0, f1, f2, f3⟩ := hK6.free4
          have hxw : x < wr.heap.size := hK.lt
          have hq6 : ∀ a, q5 = some a → 0 < n → b + 2 ≤ a.block ∧ a.block ≠ x := fun a ha h0 => by
            have := hq5 a ha h0
            have h2 := hZ.lt
            omega
          clear hRd t0 t1 hK hr hb5 hba hB5 hxw hN6
          go_wp2_with fail
          go_roundw
          case rel => exact ⟨k + 1, q5, c5, ms2, by omega, by go_num, HR, hr6.put _ _ (fun a ha h0 => (hq6 a ha h0).2), hK6.put2 _ _, hq6, hA6.put2 _ _ hpa, hZ6.other2 x (by omega) _ _, Below.put2 hB6 (by omega) _ _⟩
          case measure => simp [intOf]; omega
      · have HR2 : Hid (ms' = R) := by
          unfold Hid; rw [← HR.out, List.drop_of_length_le (by rw [hxl0.out]; omega)]; rfl
        obtain ⟨z0, z1⟩ := hZ.two
        obtain ⟨f0, f1, f2, f3⟩ := hZ.free4
        clear HR
        go_wp2_with fail
        exact bodyPost_ret (results_c1 (p := 2) rfl _ _ (b + 1) _ _ rfl (hZ.put2 _ _)) rfl ⟨q', d', rfl, fun a ha h0 => by have := (hq' a ha h0).1; omega, by rw [← HR2.out]; exact hr.put _ _ (fun a ha h0 => by have := (hq' a ha h0).1; omega), Below.put2 hb (by omega) _ _⟩

end Go.Proofs.YtigojnpjpagfjaaDoor.M
