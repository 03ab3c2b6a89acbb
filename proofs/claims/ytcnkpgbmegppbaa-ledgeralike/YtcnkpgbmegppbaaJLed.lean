/-
  Own text: a ledger in memory; contracts of made, At, copied, Chain.
-/
import Derived.Test.YtcnkpgbmegppbaaJChg
import Derived.Test.YtcnkpgbmegppbaaJGet2
import Derived.Deep.DeepAppendRoom
namespace Go.Proofs.Ytcnkpgbmegppbaa.M
open Go.ChangeShapes Go.WideShapes Go.ChangeAt Go.RowKit

/-- A chain as it lies in memory. -/
structure HE where
  e : Int
  p : Option Addr
  n : Nat
  c : Nat
  ms : List Mb

def HE.cs (h : HE) : List Value := [.int .i64 h.e, .slice h.p h.n h.c]

def HE.rd (w : World) (g r : Nat) (h : HE) : Prop := RdM w h.p h.n h.c h.ms ∧ ∀ a, h.p = some a → 0 < h.n → a.block ≠ g ∧ a.block ≠ r

def cellsH (H : List HE) : List Value := H.flatMap HE.cs

theorem cellsH_len : ∀ H : List HE, (cellsH H).length = H.length * 2
  | [] => rfl
  | h :: H => by
    have := cellsH_len H
    unfold cellsH at *
    rw [List.flatMap_cons, List.length_append, this, List.length_cons]
    show 2 + H.length * 2 = _
    omega

/-- All that lay in w, but for blocks g and r, lies as it did. -/
structure Ex2 (g r : Nat) (w w' : World) : Prop where
  os : w'.os = w.os
  tape : w'.tape = w.tape
  output : w'.output = w.output
  size : w.heap.size ≤ w'.heap.size
  block : ∀ k, k < w.heap.size → k ≠ g → k ≠ r → w'.heap[k]? = w.heap[k]?

theorem Ex2.refl (g r : Nat) (w : World) : Ex2 g r w w := ⟨rfl, rfl, rfl, Nat.le_refl _, fun _ _ _ _ => rfl⟩

theorem Ex2.trans {g r r' : Nat} {a b c : World} (h : Ex2 g r a b) (k : Ex2 g r' b c) (hr : r' = r ∨ a.heap.size ≤ r') : Ex2 g r a c :=
  ⟨k.os.trans h.os, k.tape.trans h.tape, k.output.trans h.output, Nat.le_trans h.size k.size, fun i hi hg h2 => (k.block i (Nat.lt_of_lt_of_le hi h.size) hg (fun e => by rcases hr with e1 | e1 <;> omega)).trans (h.block i hi hg h2)⟩

theorem Ex2.of_below {g r : Nat} {w w' : World} (h : Below w.heap.size w w') : Ex2 g r w w' := ⟨h.os, h.tape, h.output, h.size, fun k hk _ _ => h.block k hk⟩

theorem Ex2.below {g r B : Nat} {w w' : World} (h : Ex2 g r w w') (hg : B ≤ g) (hr : B ≤ r) (hB : B ≤ w.heap.size) : Below B w w' :=
  ⟨h.os, h.tape, h.output, h.size, fun k hk => h.block k (by omega) (by omega) (by omega)⟩

theorem Ex2.setG {g r : Nat} {w w' : World} (h : Ex2 g r w w') (j : Nat) (v : Value) : Ex2 g r w (w'.setCell ⟨g, j, none⟩ v) :=
  ⟨h.os, h.tape, h.output, by simpa [World.setCell] using h.size, fun k hk hg hr => (Below.heap_setCell _ _ _ _ (fun e => hg (by rw [e]))).trans (h.block k hk hg hr)⟩

theorem Ex2.grown {g r : Nat} {w w' w'' : World} (h : Ex2 g r w w') {o : Option Nat} (k : w'.grownBy w'' o) (ho : ∀ x, o = some x → x = r) : Ex2 g r w w'' :=
  ⟨k.os.trans h.os, k.tape.trans h.tape, k.output.trans h.output, Nat.le_trans h.size k.size, fun i hi hg hr => (k.block i (Nat.lt_of_lt_of_le hi h.size) (fun e => hr (ho i e.symm))).trans (h.block i hi hg hr)⟩

theorem RdM.ex2 {g r : Nat} {w w' : World} {p : Option Addr} {n c : Nat} {ms : List Mb} (h : RdM w p n c ms) (hx : Ex2 g r w w') (hf : ∀ a, p = some a → 0 < n → a.block ≠ g ∧ a.block ≠ r) : RdM w' p n c ms := by
  refine ⟨h.len, h.cap, h.nil, fun hn => ?_⟩
  obtain ⟨b, o, hp, hc⟩ := h.cells hn
  refine ⟨b, o, hp, fun i hi => ?_⟩
  obtain ⟨f1, f2⟩ := hf _ hp hn
  have hb : w'.heap[b]? = w.heap[b]? := hx.block b (World.block_lt_of_cell? _ _ (hc 0 hn).1) f1 f2
  obtain ⟨h1, h2, h3⟩ := hc i hi
  exact ⟨(World.cell?_of_block hb).trans h1, (World.cell?_of_block hb).trans h2, (World.cell?_of_block hb).trans h3⟩

theorem HE.rd.ex2 {g r : Nat} {w w' : World} {h : HE} (hh : h.rd w g r) (hx : Ex2 g r w w') : h.rd w' g r := ⟨hh.1.ex2 hx hh.2, hh.2⟩

/-- A ledger in block g, its row of chains in block r. -/
structure LB (w : World) (g r bc : Nat) (x : HE) (at_ : Int) (H : List HE) : Prop where
  blk : At 82 w g #[.slice (some ⟨r, 0, none⟩) H.length bc, .int .i64 x.e, .slice x.p x.n x.c, .int .i64 at_]
  row : w.ownsRow 0 42 2 (.slice (some ⟨r, 0, none⟩) H.length bc) H.length (cellsH H)
  ne : r ≠ g
  now : x.rd w g r
  old : ∀ h ∈ H, h.rd w g r
  pos : 0 < H.length

theorem LB.lr {w : World} {g r bc : Nat} {x : HE} {at_ : Int} {H : List HE} (h : LB w g r bc x at_ H) : r < w.heap.size := (World.ownsRow.lt h.row r rfl).2

theorem LB.below {w w' : World} {g r bc : Nat} {x : HE} {at_ : Int} {H : List HE} (h : LB w g r bc x at_ H) (hb : Below w.heap.size w w') : LB w' g r bc x at_ H := by
  have hx : Ex2 g r w w' := Ex2.of_below hb
  refine ⟨h.blk.below hb, ⟨h.row.1, ?_⟩, h.ne, h.now.ex2 hx, fun y hy => (h.old y hy).ex2 hx, h.pos⟩
  rcases h.row.2 with h2 | ⟨g', cap, cur, hv, hg, hh, r⟩
  · exact Or.inl h2
  · exact Or.inr ⟨g', cap, cur, hv, hg, by rw [hb.block g' (Array.getElem?_eq_some_iff.1 hh).1]; exact hh, r⟩

/-- Behind a change that keeps both blocks. -/
theorem LB.kept {w w' : World} {g r bc : Nat} {x : HE} {at_ : Int} {H : List HE} (h : LB w g r bc x at_ H) {g2 r2 : Nat} (hx : Ex2 g2 r2 w w') (h1 : g ≠ g2 ∧ g ≠ r2) (h2 : r ≠ g2 ∧ r ≠ r2) (h3 : ∀ y ∈ x :: H, ∀ a, y.p = some a → 0 < y.n → a.block ≠ g2 ∧ a.block ≠ r2) : LB w' g r bc x at_ H := by
  refine ⟨?_, ⟨h.row.1, ?_⟩, h.ne, ⟨h.now.1.ex2 hx (h3 x (List.mem_cons_self ..)), h.now.2⟩, fun y hy => ⟨(h.old y hy).1.ex2 hx (h3 y (List.mem_cons_of_mem _ hy)), (h.old y hy).2⟩, h.pos⟩
  · unfold At
    rw [hx.block g h.blk.lt h1.1 h1.2]
    exact h.blk
  · rcases h.row.2 with h4 | ⟨g', cap, cur, hv, hg, hh, r3⟩
    · exact Or.inl h4
    · have : r = g' := by injection hv with e1; injection e1 with e1; injection e1
      subst this
      exact Or.inr ⟨r, cap, cur, hv, hg, by rw [hx.block r h.lr h2.1 h2.2]; exact hh, r3⟩

set_option maxRecDepth 20000 in
theorem made_yes (g r bc : Nat) (x : HE) (at_ : Int) (H : List HE) (w : World) (h : LB w g r bc x at_ H) :
    Calls Try.prog 42 #[.pointer (some ⟨g, 0, none⟩)] w fun o w' => o = .returned (.bool true) ∧ w' = w := by
  obtain ⟨q0, q1, q2, q3⟩ := h.blk.four
  have hp : (0 : Int) < (H.length : Int) := by have := h.pos; omega
  have hd : Hid (decide (0 < H.length) = true) := decide_eq_true h.pos
  clear h
  go_enter Try.func42, Try.ntmps42
  go_wp2_with fail
  go_ret
  exact ⟨ret_bool hd.out, rfl⟩

set_option maxRecDepth 20000 in
theorem At_yes (g r bc : Nat) (x : HE) (at_ : Int) (H : List HE) (w : World) (h : LB w g r bc x at_ H) :
    Calls Try.prog 28 #[.pointer (some ⟨g, 0, none⟩)] w fun o w' => o = .returned (.int .i64 at_) ∧ w' = w := by
  obtain ⟨q0, q1, q2, q3⟩ := h.blk.four
  have hm := made_yes g r bc x at_ H w h
  clear h
  go_enter Try.func28, Try.ntmps28
  go_wp2_with fail
  refine hm.mono ?_
  rintro o w1 ⟨rfl, hw⟩
  subst hw
  go_wp2_with fail
  go_ret
  exact ⟨rfl, rfl⟩

theorem results_chain1 {fn : Func} {p : Tmp} (h : fn.results = #[.cell p 42]) (tmps : Array Value) (w : World) (g : Nat) (x y : Value) (hp : tmps.getD p undef = .pointer (some ⟨g, 0, none⟩)) (c0 : w.cell? ⟨g, 0, none⟩ = some x) (c1 : w.cell? ⟨g, 1, none⟩ = some y) :
    (results fn tmps).run Try.prog w = .ok (.agg #[x, y]) w := by
  have hp' : tmps[p]?.getD undef = .pointer (some ⟨g, 0, none⟩) := by simpa using hp
  have hl := run_loadVar_mid (P := Try.prog) w g 0 42 [x, y] _ (fun j v hj => by
    rw [Nat.zero_add]
    match j, hj with
    | 0, hj => cases hj; exact c0
    | 1, hj => cases hj; exact c1) Try.underlying42 rfl sizeC
  simp [results, h, hp', asAddr, hl]

theorem two0 {W : World} {x : Nat} {a u v : Value} (h : W.cell? ⟨x, 0, none⟩ = some a) : ((W.setCell ⟨x, 0, none⟩ u).setCell ⟨x, 1, none⟩ v).cell? ⟨x, 0, none⟩ = some u := by
  rw [World.cell?_setCell_other (h := by simp), World.cell?_setCell_same (h := h)]

theorem two1 {W : World} {x : Nat} {a u v : Value} (h : W.cell? ⟨x, 1, none⟩ = some a) : ((W.setCell ⟨x, 0, none⟩ u).setCell ⟨x, 1, none⟩ v).cell? ⟨x, 1, none⟩ = some v := by
  rw [World.cell?_setCell_same (h := by rw [World.cell?_setCell_other (h := by simp)]; exact h)]

theorem Bl.out {w W : World} (h : Bl w W) : Below w.heap.size w W := h

set_option linter.unusedSimpArgs false in
set_option maxRecDepth 20000 in
set_option maxHeartbeats 4000000 in
theorem copied_any (e : Int) (p : Option Addr) (n c : Nat) (ms : List Mb) (w : World) (hr : RdM w p n c ms) (hn : n ≤ 5864062014805) :
    Calls Try.prog 44 #[.agg #[.int .i64 e, .slice p n c]] w fun o w' => ∃ q d, o = .returned (.agg #[.int .i64 e, .slice q n d]) ∧ (∀ a, q = some a → 0 < n → w.heap.size ≤ a.block) ∧ RdM w' q n d ms ∧ Below w.heap.size w w' := by
  have hb0 : Below w.heap.size w ((w.alloc (.cells #[.int .i64 e, .slice p n c] 42)).alloc (.cells #[.int .i64 0, .slice none 0 0] 42)) := ((Below.refl _ _).alloc (Nat.le_refl _) _).alloc (by simp) _
  have k0 : ((w.alloc (.cells #[.int .i64 e, .slice p n c] 42)).alloc (.cells #[.int .i64 0, .slice none 0 0] 42)).heap[w.heap.size]? = some (.cells #[.int .i64 e, .slice p n c] 42) := by
    rw [heap_alloc_old (w.alloc _) _ (by simp)]
    exact heap_alloc_new _ _
  have k1 : ((w.alloc (.cells #[.int .i64 e, .slice p n c] 42)).alloc (.cells #[.int .i64 0, .slice none 0 0] 42)).heap[w.heap.size + 1]? = some (.cells #[.int .i64 0, .slice none 0 0] 42) := by
    have := heap_alloc_new (w.alloc (.cells #[.int .i64 e, .slice p n c] 42)) (.cells #[.int .i64 0, .slice none 0 0] 42)
    simpa using this
  have hr0 := hr.below hb0
  have hl := hr.len
  have hsz : ((w.alloc (.cells #[.int .i64 e, .slice p n c] 42)).alloc (.cells #[.int .i64 0, .slice none 0 0] 42)).heap.size = w.heap.size + 2 := by simp
  clear hr
  go_enter Try.func44, Try.ntmps44
  go_wp2_with fail
  generalize hw0 : ((w.alloc (.cells #[.int .i64 e, .slice p n c] 42)).alloc (.cells #[.int .i64 0, .slice none 0 0] 42)) = w0 at *
  generalize hb : w.heap.size = b at *
  clear hw0
  have hS0 : Bl w0 w0.drew := (Below.refl _ _).drew
  refine wp_region_det [0, 1, 2, 3, 5] (Bl w0) (Bl w0) (by kernel_rfl) hS0 ?_
  refine wpDet_take ?vA0 (Bl.stays w0) (fun _ h => h) (i := 0) rfl (by kernel_rfl) (by kernel_rfl) (by kernel_rfl) (by kernel_rfl) (fun _ _ _ h => h) (Gives.value (by rfl) ?yA0) ?rA0
  case yA0 => (intro w' hSw; have za0 := (cell_row (hSw.block b (by omega) ▸ k0) (j := 0) rfl); have za1 := (cell_row (hSw.block b (by omega) ▸ k0) (j := 1) rfl); go_simp; try with_reducible rfl)
  (try simp only [Act.put, List.getElem_toArray, List.getElem_cons_zero, List.getElem_cons_succ, List.setIfInBounds_toArray, List.set_cons_zero, List.set_cons_succ])
  refine wpDet_take ?vA1 (Bl.stays w0) (fun _ h => h) (i := 1) rfl (by kernel_rfl) (by kernel_rfl) (by kernel_rfl) (by kernel_rfl) (fun _ _ _ h => h) (Gives.value (by rfl) ?yA1) ?rA1
  case yA1 => (intro w' hSw; have za0 := (cell_row (hSw.block b (by omega) ▸ k0) (j := 0) rfl); have za1 := (cell_row (hSw.block b (by omega) ▸ k0) (j := 1) rfl); go_simp; try with_reducible rfl)
  (try simp only [Act.put, List.getElem_toArray, List.getElem_cons_zero, List.getElem_cons_succ, List.setIfInBounds_toArray, List.set_cons_zero, List.set_cons_succ])
  refine wpDet_take ?vA2 (Bl.stays w0) (fun _ h => h) (i := 2) rfl (by kernel_rfl) (by kernel_rfl) (by kernel_rfl) (by kernel_rfl) (fun _ _ _ h => h) (Gives.value (by rfl) ?yA2) ?rA2
  case yA2 => (intro w' hSw; have za0 := (cell_row (hSw.block b (by omega) ▸ k0) (j := 0) rfl); have za1 := (cell_row (hSw.block b (by omega) ▸ k0) (j := 1) rfl); go_simp; try with_reducible rfl)
  (try simp only [Act.put, List.getElem_toArray, List.getElem_cons_zero, List.getElem_cons_succ, List.setIfInBounds_toArray, List.set_cons_zero, List.set_cons_succ])
  refine wpDet_take ?vA3 (Bl.stays w0) (fun _ h => h) (i := 3) rfl (by kernel_rfl) (by kernel_rfl) (by kernel_rfl) (by kernel_rfl) (fun _ _ _ h => h) (Gives.value (by rfl) ?yA3) ?rA3
  case yA3 => (intro w' hSw; have za0 := (cell_row (hSw.block b (by omega) ▸ k0) (j := 0) rfl); have za1 := (cell_row (hSw.block b (by omega) ▸ k0) (j := 1) rfl); go_simp; try with_reducible rfl)
  (try simp only [Act.put, List.getElem_toArray, List.getElem_cons_zero, List.getElem_cons_succ, List.setIfInBounds_toArray, List.set_cons_zero, List.set_cons_succ])
  refine wpDet_ready (rs := [4]) (by kernel_rfl) (by simp) (AllDet.cons rfl (fun V hV K hK => ?_) AllDet.nil)
  rw [if_pos (by rfl)]
  have hCv := cloneM_any p n c ms V (hr0.below hV) (by omega)
  refine wp_enterE 64 #[.slice p n c] (by first | (go_simp; done) | (go_simp; rfl)) (fun v W => Copy W V.heap.size n ms v ∧ Below V.heap.size V W) (hCv.mono fun e' w' hh => by obtain ⟨v, h1, h2, h3⟩ := hh; exact ⟨v, h1, h2, h3⟩) ?_
  rintro v7 V7 ⟨hcp, hb7⟩
  obtain ⟨q, d, rfl, hq, hrq⟩ := hcp.tell hl
  have hVs : w0.heap.size ≤ V.heap.size := (Bl.out hV).size
  refine hK.out (Br w0 q n d ms) _ _ (Br.stays w0 _ _ _ _) (fun _ _ h => h.1) ⟨Bl.stays w0 V V7 hV hb7, hrq⟩ ?_
  have hqb : ∀ a, q = some a → 0 < n → b + 2 ≤ a.block := fun a ha h0 => by have := hq a ha h0; omega
  clear hK K hCv hcp hb7 hV hrq hq hVs
  (try simp only [Act.put, List.getElem_toArray, List.getElem_cons_zero, List.getElem_cons_succ, List.setIfInBounds_toArray, List.set_cons_zero, List.set_cons_succ])
  refine wpDet_take ?vB5 (Br.stays w0 _ _ _ _) (fun _ h => h.1) (i := 5) rfl (by kernel_rfl) (by kernel_rfl) (by kernel_rfl) (by kernel_rfl) (fun _ _ _ h => h) (Gives.value (by rfl) ?yB5) ?rB5
  case yB5 => (intro w' hSw; go_simp; try with_reducible rfl)
  (try simp only [Act.put, List.getElem_toArray, List.getElem_cons_zero, List.getElem_cons_succ, List.setIfInBounds_toArray, List.set_cons_zero, List.set_cons_succ])
  refine wpDet_ready (rs := [6]) (by kernel_rfl) (by simp) (AllDet.cons rfl (fun V hV K hK => ?_) AllDet.nil)
  rw [if_pos (by rfl)]
  have hrw : V.heap[b + 1]? = some (.cells #[.int .i64 0, .slice none 0 0] 42) := ((Bl.out hV.1).block (b + 1) (by omega)).trans k1
  have y0 := cell_row hrw (j := 0) (v := .int .i64 0) rfl
  have y1 := cell_row hrw (j := 1) (v := .slice none 0 0) rfl
  have g0 := frozen_of_row V (b + 1) 0 _ _ hrw
  have g1 := frozen_of_row V (b + 1) 1 _ _ hrw
  have hth : V.there (b + 1) 0 2 := fun j hj => by rw [Nat.zero_add]; match j, hj with | 0, _ => exact ⟨by rw [y0]; rfl, g0⟩ | 1, _ => exact ⟨by rw [y1]; rfl, g1⟩
  refine wp_store_mid 42 _ _ rfl (b + 1) 0 #[.int .i64 e, .slice q n d] rfl rfl hth sizeC (one2 _ _ _ _) ?_
  have hBV : Below b w0 V := (Bl.out hV.1).mono (by omega)
  have hz : Bz b w0 (b + 1) e q n d ms ((V.setCell ⟨b + 1, 0, none⟩ (.int .i64 e)).setCell ⟨b + 1, 1, none⟩ (.slice q n d)) := ⟨Gr.putB hBV (by omega) _ _, hV.2.put _ _ (fun a ha h0 => by have := hqb a ha h0; omega), two0 y0, two1 y1, by have := (Bl.out hV.1).size; simp; omega⟩
  refine hK.out (Bz b w0 (b + 1) e q n d ms) _ _ (Bz.stays _ _ _ _ _ _ _ _) (no_lean (by kernel_rfl)) hz ?_
  clear hK K hV hth hz y0 y1 g0 g1 hrw hBV
  (try simp only [Act.put, List.getElem_toArray, List.getElem_cons_zero, List.getElem_cons_succ, List.setIfInBounds_toArray, List.set_cons_zero, List.set_cons_succ])
  refine wpDet_done (by kernel_rfl) (fun W3 hV => ?_) _
  obtain ⟨hb3, rq, z0, z1, hs3⟩ := hV
  go_wp2_with fail
  exact bodyPost_ret (results_chain1 (p := 2) rfl _ _ (b + 1) _ _ rfl z0 z1) rfl ⟨q, d, rfl, fun a ha h0 => by have := hqb a ha h0; omega, rq, by rw [hb]; exact hb0.trans hb3⟩

set_option maxRecDepth 20000 in
set_option maxHeartbeats 4000000 in
theorem Chain_yes (g r bc : Nat) (x : HE) (at_ : Int) (H : List HE) (w : World) (h : LB w g r bc x at_ H) (hn : x.n ≤ 5864062014805) :
    Calls Try.prog 20 #[.pointer (some ⟨g, 0, none⟩)] w fun o w' => ∃ q d, o = .returned (.agg #[.int .i64 x.e, .slice q x.n d]) ∧ (∀ a, q = some a → 0 < x.n → w.heap.size ≤ a.block) ∧ RdM w' q x.n d x.ms ∧ Below w.heap.size w w' := by
  have hba := below_alloc w (.cells #[.int .i64 0, .slice none 0 0] 42)
  have hZ := At.new 42 w #[.int .i64 0, .slice none 0 0]
  have hL := h.below hba
  have hm := made_yes g r bc x at_ H _ hL
  have hc := copied_any x.e x.p x.n x.c x.ms _ hL.now.1 hn
  obtain ⟨q0, q1, q2, q3⟩ := hL.blk.four
  have hsz : (w.alloc (.cells #[.int .i64 0, .slice none 0 0] 42)).heap.size = w.heap.size + 1 := by simp
  obtain ⟨e, p, n, c, ms⟩ := x
  dsimp only at *
  clear h hL
  go_enter Try.func20, Try.ntmps20
  go_wp2_with fail
  refine hm.mono ?_
  rintro o w1 ⟨rfl, hw⟩
  subst hw
  go_wp2_with fail
  refine hc.mono ?_
  rintro o w2 ⟨q, d, rfl, hq, hr, hb2⟩
  have hZ2 := hZ.below hb2
  obtain ⟨z0, z1⟩ := hZ2.two
  have f0 := hZ2.free 0
  have f1 := hZ2.free 1
  have hB2 := hba.trans (hb2.mono hba.size)
  have hqn : ∀ a, q = some a → 0 < n → w.heap.size + 1 ≤ a.block := fun a ha h0 => by have := hq a ha h0; omega
  clear hm hc hq q0 q1 q2 q3
  go_wp2_with fail
  exact bodyPost_ret (results_chain1 (p := 2) rfl _ _ w.heap.size _ _ rfl (two0 z0) (two1 z1)) rfl ⟨q, d, rfl, fun a ha h0 => by have := hqn a ha h0; omega, hr.put _ _ (fun a ha h0 => by have := hqn a ha h0; omega), Gr.putB hB2 (Nat.le_refl _) _ _⟩

end Go.Proofs.Ytcnkpgbmegppbaa.M
