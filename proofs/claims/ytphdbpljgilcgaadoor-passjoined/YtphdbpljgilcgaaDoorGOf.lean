/-
  Own text: the contract of the digest.
-/
import Derived.Test.YtphdbpljgilcgaaDoorGLast
namespace Go.Proofs.YtphdbpljgilcgaaDoor.M
open Go.ChangeShapes Go.WideShapes Go.ChangeAt Go.RowKit

theorem Rd.rng {k : IntKind} {w : World} {b o n c : Nat} {l : List Int} (hr : Rd k w (some ⟨b, o, none⟩) n c l) (m : Nat) (_hm : m ≤ n) : w.rangeAt b o ((l.take m).map (.int k)) := by
  intro j v hj
  rw [List.getElem?_map] at hj
  have hj1 : j < (l.take m).length := by
    rcases Nat.lt_or_ge j (l.take m).length with h | h
    · exact h
    · rw [List.getElem?_eq_none h] at hj; cases hj
  have hj' : j < l.length := by rw [List.length_take] at hj1; omega
  obtain ⟨b', o', e, hc⟩ := hr.cells (by rw [← hr.len]; omega)
  cases e
  rw [hc j (by rw [← hr.len]; exact hj')]
  rw [List.getElem?_eq_getElem hj1, List.getElem_take] at hj
  rw [List.getD_eq_getElem?_getD, List.getElem?_eq_getElem hj']
  exact hj

/-- A slice from its m-th on. -/
theorem Rd.cut {k : IntKind} {w : World} {b o n c : Nat} {l : List Int} (hr : Rd k w (some ⟨b, o, none⟩) n c l) (m : Nat) (hm : m ≤ n) : Rd k w (some ⟨b, o + m, none⟩) (n - m) (c - m) (l.drop m) := by
  refine ⟨by rw [List.length_drop, hr.len], by have := hr.cap; omega, (fun h => by cases h), fun h => ?_⟩
  obtain ⟨b', o', e, hc⟩ := hr.cells (by omega)
  cases e
  refine ⟨_, _, rfl, fun i hi => ?_⟩
  have := hc (m + i) (by omega)
  rw [Nat.add_assoc, this]
  congr 2
  rw [List.getD_eq_getElem?_getD, List.getD_eq_getElem?_getD, List.getElem?_drop]

theorem Rd.at {k : IntKind} {w : World} {p : Option Addr} {n c : Nat} {l : List Int} (hr : Rd k w p n c l) (h : 0 < n) : ∃ b o, p = some ⟨b, o, none⟩ := by
  obtain ⟨b, o, e, _⟩ := hr.cells h
  exact ⟨b, o, e⟩

theorem Byt.take {l : List Int} (h : Byt l) (m : Nat) : Byt (l.take m) := fun x hx => h x (List.mem_of_mem_take hx)
theorem Byt.drop {l : List Int} (h : Byt l) (m : Nat) : Byt (l.drop m) := fun x hx => h x (List.mem_of_mem_drop hx)

def slen : Value → Nat
  | .slice _ n _ => n
  | _ => 0

theorem absorb_step (s : Nat × Nat × Nat × Nat) (l : List Int) (m : Nat) (h : 16 < m) : absorb s (ahead m) l = absorb (stirN 12 (xr s (qW (l.take 16)))) (ahead (m - 16)) (l.drop 16) := by
  have e : ahead m = ahead (m - 16) + 1 := by unfold ahead; omega
  rw [e]
  rfl

theorem rest_step (l : List Int) (m : Nat) (h : 16 < m) : l.drop (16 * ahead m) = (l.drop 16).drop (16 * ahead (m - 16)) := by
  rw [List.drop_drop]
  congr 1
  unfold ahead
  omega

theorem digest_len (kl l : List Int) : (digest kl l).length = 16 := qB_len _

theorem run_arrayAt (a : Option Addr) (n c : Nat) (h : 16 ≤ n) (W : World) : (Instr.arrayAt 22 (.slice a n c)).run Tryd.prog W = .ok (.pointer a) W := by
  have hu := Tryd.underlying22
  simp [Instr.arrayAt, run_underlying hu]
  omega

set_option maxRecDepth 20000 in
set_option linter.unusedSimpArgs false in
set_option maxHeartbeats 4000000 in
theorem of_any (kp : Option Addr) (kc : Nat) (kl : List Int) (p : Option Addr) (n c : Nat) (l : List Int) (w : World) (hk : Rd .u8 w kp 16 kc kl) (hkb : Byt kl) (hr : Rd .u8 w p n c l) (hby : Byt l) :
    Calls Tryd.prog 29 #[.slice kp 16 kc, .slice p n c] w fun r w' => r = .returned (.tuple #[.agg (nums .u8 (digest kl l)), .int .i64 0]) ∧ Below w.heap.size w w' := by
  have hZ0 : ArrI 22 .u8 (w.alloc (.cells (nums .u8 (List.replicate 16 0)) 22)) w.heap.size (List.replicate 16 0) := ArrI.new _ .u8 w _
  have hb0 : Below w.heap.size w (w.alloc (.cells (nums .u8 (List.replicate 16 0)) 22)) := below_alloc _ _
  rw [zero16] at hZ0 hb0
  obtain ⟨kb, ko, rfl⟩ := hk.at (by decide)
  have hkl := hk.len
  have hkr := (hk.below hb0).rng 16 (Nat.le_refl _)
  rw [List.take_of_length_le (by omega)] at hkr
  have hiB2 : (Tryd.prog.info? 22).map (·.size) = some (kl.map (Value.int .u8)).length := by rw [List.length_map, hkl]; exact infoB
  have cW := fun W => words_any kl W hkl hkb
  have hat := run_arrayAt (some ⟨kb, ko, none⟩) 16 kc (Nat.le_refl _)
  go_enter Tryd.func29, Tryd.ntmps29
  go_wp2_with (refine wpList_load_mid rfl 22 _ rfl kb ko rfl (kl.map (Value.int .u8)) _ hkr Tryd.underlying22 rfl hiB2 ?_)
  refine (cW _).mono ?_
  rintro e w1 ⟨rfl, hb1⟩
  have hZ1 := hZ0.below hb1
  have hbb1 := hb0.trans (hb1.mono hb0.size)
  have hlt1 : w.heap.size < w1.heap.size := hZ1.lt
  clear hZ0 hb0 hb1 hkr cW hat hiB2
  have hqk := qW_lt hkb
  have hdg : Hid (digest kl l = qB (xr (stirN 12 (xr (xr (absorb (qW kl) (ahead n) l) (qW (fillL (l.drop (16 * ahead n))))) (endW (qW kl) (l.drop (16 * ahead n))))) (endW (qW kl) (l.drop (16 * ahead n))))) := by unfold Hid digest; rw [hr.len]
  generalize qW kl = k at hqk hdg ⊢
  have hi := info_nums .u32 (qI k) infoK rfl
  have hz : (nums .u32 [0, 0, 0, 0]).size = (nums .u32 (qI k)).size := rfl
  have hY : ArrI 76 .u32 (w1.alloc (.cells #[.int .u32 0, .int .u32 0, .int .u32 0, .int .u32 0] 76)) w1.heap.size [0, 0, 0, 0] := ArrI.new 76 .u32 w1 [0, 0, 0, 0]
  have hK := hY.setRow (qI k)
  have hZ2 := (hZ1.alloc (.cells #[.int .u32 0, .int .u32 0, .int .u32 0, .int .u32 0] 76)).rowOther w1.heap.size (nums .u32 (qI k)) (by omega)
  have hbb2 := (hbb1.alloc hbb1.size (.cells #[.int .u32 0, .int .u32 0, .int .u32 0, .int .u32 0] 76)).trans (below_setRow _ w1.heap.size (nums .u32 (qI k)) (by omega))
  have hsz : ((w1.alloc (.cells #[.int .u32 0, .int .u32 0, .int .u32 0, .int .u32 0] 76)).setRow w1.heap.size (nums .u32 (qI k))).heap.size = w1.heap.size + 1 := by simp
  have hY2 : ArrI 76 .u32 (((w1.alloc (.cells #[.int .u32 0, .int .u32 0, .int .u32 0, .int .u32 0] 76)).setRow w1.heap.size (nums .u32 (qI k))).alloc (.cells #[.int .u32 0, .int .u32 0, .int .u32 0, .int .u32 0] 76)) _ [0, 0, 0, 0] := ArrI.new 76 .u32 _ [0, 0, 0, 0]
  rw [hsz] at hY2
  have hS3 := hY2.setRow (qI k)
  have hK3 := (hK.alloc (.cells #[.int .u32 0, .int .u32 0, .int .u32 0, .int .u32 0] 76)).rowOther (w1.heap.size + 1) (nums .u32 (qI k)) (by omega)
  have hZ3 := (hZ2.alloc (.cells #[.int .u32 0, .int .u32 0, .int .u32 0, .int .u32 0] 76)).rowOther (w1.heap.size + 1) (nums .u32 (qI k)) (by omega)
  have hbb3 := (hbb2.alloc (by omega) (.cells #[.int .u32 0, .int .u32 0, .int .u32 0, .int .u32 0] 76)).trans (below_setRow _ (w1.heap.size + 1) (nums .u32 (qI k)) (by omega))
  clear hsz hZ2 hbb2 hZ1 hbb1
  go_wp2_with (first | refine wpList_store_row rfl 76 _ _ rfl w1.heap.size (nums .u32 (qI k)) rfl rfl _ _ hY hi hz (nums_one _ _) ?_ | refine wpList_load_row rfl 76 _ rfl w1.heap.size rfl _ _ _ _ hK Tryd.underlying76 rfl hi ?_ | refine wpList_store_row rfl 76 _ _ rfl (w1.heap.size + 1) (nums .u32 (qI k)) rfl rfl _ _ hY2 hi hz (nums_one _ _) ?_)
  dsimp only [Act.put]
  clear hY hY2 hK
  generalize (((w1.alloc _).setRow w1.heap.size _).alloc _).setRow (w1.heap.size + 1) _ = W3 at hS3 hK3 hZ3 hbb3 ⊢
  generalize w1.heap.size = G at hlt1 hS3 hK3 hZ3 hbb3 ⊢
  go_loopw [1] (fun v wr => ∃ q m d r st, v = .slice q m d ∧ Rd .u8 w q m d r ∧ Byt r ∧ Qd st ∧ ArrI 76 .u32 wr (G + 1) (qI st) ∧ ArrI 76 .u32 wr G (qI k) ∧ ArrI 22 .u8 wr w.heap.size (List.replicate 16 0) ∧ Below w.heap.size w wr ∧
    Hid (absorb st (ahead m) r = absorb k (ahead n) l) ∧ Hid (r.drop (16 * ahead m) = l.drop (16 * ahead n))) (fun v _ => slen v)
  case atStart => exact ⟨p, n, c, l, k, rfl, hr, hby, hqk, hS3, hK3, hZ3, hbb3, rfl, rfl⟩
  case round =>
    clear hS3 hK3 hZ3 hbb3
    obtain ⟨q, m, d, r, st, rfl, hq, hbr, hst, hS, hK, hZ, hb, hab, hre⟩ := hrel
    by_cases hm : 16 < m
    · obtain ⟨rb, ro, rfl⟩ := hq.at (by omega)
      have hm1 : (16 : Int) < (m : Int) := by omega
      have hat := run_arrayAt (some ⟨rb, ro, none⟩) m d (by omega)
      have hql := hq.len
      have hcap := hq.cap
      have hiS := info_nums .u32 (qI st) infoK rfl
      have hiT := info_nums .u32 (qI (stirN 12 (xr st (qW (r.take 16))))) infoK rfl
      have hrg : ∀ W : World, Below w.heap.size w W → W.rangeAt rb ro ((r.take 16).map (Value.int .u8)) := fun W h => (hq.below h).rng 16 (by omega)
      have htl : (r.take 16).length = 16 := by rw [List.length_take, hql]; omega
      have hiB2 : (Tryd.prog.info? 22).map (·.size) = some ((r.take 16).map (Value.int .u8)).length := by rw [List.length_map, htl]; exact infoB
      have hqt := qW_lt (hbr.take 16)
      have hxt := xr_lt hst hqt
      have hS0 : Hold w [(22, .u8, w.heap.size, List.replicate 16 0), (76, .u32, G, qI k), (76, .u32, G + 1, qI st)] wr := Hold.cons hZ (Hold.cons hK (Hold.cons hS (Hold.nil hb)))
      have cW := fun W hS => hold_call (w := w) (l := [(22, .u8, w.heap.size, List.replicate 16 0), (76, .u32, G, qI k), (76, .u32, G + 1, qI st)]) hS (words_any (r.take 16) W htl (hbr.take 16))
      have cX := fun W hS => hold_call (w := w) (l := [(22, .u8, w.heap.size, List.replicate 16 0), (76, .u32, G, qI k), (76, .u32, G + 1, qI st)]) hS (with_any st (qW (r.take 16)) W hst hqt)
      have cS := fun W hS => hold_call (w := w) (l := [(22, .u8, w.heap.size, List.replicate 16 0), (76, .u32, G, qI k), (76, .u32, G + 1, qI st)]) hS (stirred_any (xr st (qW (r.take 16))) W hxt)
      have hab2 : Hid (absorb (stirN 12 (xr st (qW (r.take 16)))) (ahead (m - 16)) (r.drop 16) = absorb k (ahead n) l) := by
        have h1 := hab.out
        rw [absorb_step st r m hm] at h1
        exact h1
      have hre2 : Hid ((r.drop 16).drop (16 * ahead (m - 16)) = l.drop (16 * ahead n)) := by
        have h1 := hre.out
        rw [rest_step r m hm] at h1
        exact h1
      have hcut := hq.cut 16 (by omega)
      have hbr2 := hbr.drop 16
      have hst2 := stirN_lt hxt 12
      clear hab hre hZ hK hS hb
      generalize r.take 16 = tk at *
      go_wp2_with fail
      refine wp_region_held_drew (S := fun W => ∃ z : Nat × Nat × Nat × Nat, Hold w [(22, .u8, w.heap.size, List.replicate 16 0), (76, .u32, G, qI k), (76, .u32, G + 1, qI z)] W) (by kernel_rfl) ⟨st, hS0.drew⟩ (fun hHeld => ?_)
      clear hHeld
      have hS1 := hS0.drew
      refine wpAnyH_take (i := 1) (v := ?yv1) rfl (by kernel_rfl) (by kernel_rfl) (by kernel_rfl) (fun _ _ _ h => h) (Or.inl ⟨by rfl, ?yy1⟩) ⟨st, hS1⟩ ?yr1
      case yy1 => (intro w hSw; (try dsimp only at hSw); go_simp; try with_reducible rfl)
      (try simp only [Act.put, List.getElem_toArray, List.getElem_cons_zero, List.getElem_cons_succ, List.setIfInBounds_toArray, List.set_cons_zero, List.set_cons_succ])
      refine wpAnyH_take (i := 2) (v := ?yv2) rfl (by kernel_rfl) (by kernel_rfl) (by kernel_rfl) (fun _ _ _ h => h) (Or.inl ⟨by rfl, ?yy2⟩) ⟨st, hS1⟩ ?yr2
      case yy2 => (intro w hSw; (try dsimp only at hSw); go_simp; try with_reducible rfl)
      (try simp only [Act.put, List.getElem_toArray, List.getElem_cons_zero, List.getElem_cons_succ, List.setIfInBounds_toArray, List.set_cons_zero, List.set_cons_succ])
      refine wpAnyH_take (i := 3) (v := _) rfl (by kernel_rfl) (by kernel_rfl) (by kernel_rfl) (fun _ _ _ h => h) (yieldsIf_load_mid (by rfl) _ _ rfl _ _ rfl _ _ (fun _ ⟨_, h⟩ => hrg _ h.2) Tryd.underlying22 rfl hiB2) ⟨st, hS1⟩ ?_
      (try simp only [Act.put, List.getElem_toArray, List.getElem_cons_zero, List.getElem_cons_succ, List.setIfInBounds_toArray, List.set_cons_zero, List.set_cons_succ])
      refine wpAnyH_ready (rs := [0, 4]) (by kernel_rfl) (by simp) (AllReadyH.cons rfl (fun K hK => ?_) (AllReadyH.cons rfl (fun K hK => ?_) AllReadyH.nil))
      · rw [if_pos (by rfl)]
        refine wp_load_row 76 _ rfl (G + 1) rfl _ _ _ _ (hS1.at 2 rfl) Tryd.underlying76 rfl hiS ?_
        refine hK.out _ _ ⟨_, hS1⟩ (fun hHeld => ?_)
        clear hK K hHeld
        (try simp only [Act.put, List.getElem_toArray, List.getElem_cons_zero, List.getElem_cons_succ, List.setIfInBounds_toArray, List.set_cons_zero, List.set_cons_succ])
        refine wpAnyH_ready (rs := [4]) (by kernel_rfl) (by simp) (AllReadyH.cons rfl (fun K hK => ?_) AllReadyH.nil)
        go_simp
        refine (cW _ hS1).mono ?_
        rintro e w5 ⟨rfl, hS5⟩
        go_wp2_with fail
        refine hK.out _ _ ⟨_, hS5⟩ (fun hHeld => ?_)
        clear hK K hHeld
        (try simp only [Act.put, List.getElem_toArray, List.getElem_cons_zero, List.getElem_cons_succ, List.setIfInBounds_toArray, List.set_cons_zero, List.set_cons_succ])
        refine wpAnyH_ready (rs := [5]) (by kernel_rfl) (by simp) (AllReadyH.cons rfl (fun K hK => ?_) AllReadyH.nil)
        go_simp
        refine (cX _ hS5).mono ?_
        rintro e w6 ⟨rfl, hS6⟩
        go_wp2_with fail
        refine hK.out _ _ ⟨_, hS6⟩ (fun hHeld => ?_)
        clear hK K hHeld
        (try simp only [Act.put, List.getElem_toArray, List.getElem_cons_zero, List.getElem_cons_succ, List.setIfInBounds_toArray, List.set_cons_zero, List.set_cons_succ])
        refine wpAnyH_ready (rs := [6]) (by kernel_rfl) (by simp) (AllReadyH.cons rfl (fun K hK => ?_) AllReadyH.nil)
        go_simp
        refine (cS _ hS6).mono ?_
        rintro e w7 ⟨rfl, hS7⟩
        go_wp2_with fail
        refine hK.out _ _ ⟨_, hS7⟩ (fun hHeld => ?_)
        clear hK K hHeld
        (try simp only [Act.put, List.getElem_toArray, List.getElem_cons_zero, List.getElem_cons_succ, List.setIfInBounds_toArray, List.set_cons_zero, List.set_cons_succ])
        refine wpAnyH_ready (rs := [7]) (by kernel_rfl) (by simp) (AllReadyH.cons rfl (fun K hK => ?_) AllReadyH.nil)
        rw [if_pos (by rfl)]
        refine wp_store_row 76 _ _ rfl (G + 1) (nums .u32 (qI (stirN 12 (xr st (qW (tk)))))) rfl rfl _ _ (hS7.at 2 rfl) hiT rfl (nums_one _ _) ?_
        have hX8 := (hS7.at 2 rfl).setRow (qI (stirN 12 (xr st (qW (tk)))))
        have hK8 := (hS7.at 1 rfl).rowOther (G + 1) (nums .u32 (qI (stirN 12 (xr st (qW (tk)))))) (by omega)
        have hZ8 := (hS7.at 0 rfl).rowOther (G + 1) (nums .u32 (qI (stirN 12 (xr st (qW (tk)))))) (by omega)
        have hb8 := hS7.2.trans (below_setRow w7 (G + 1) (nums .u32 (qI (stirN 12 (xr st (qW (tk)))))) (by omega))
        generalize w7.setRow (G + 1) (nums .u32 (qI (stirN 12 (xr st (qW (tk)))))) = w8 at hX8 hK8 hZ8 hb8 ⊢
        refine hK.out _ _ ⟨stirN 12 (xr st (qW (tk))), Hold.cons hZ8 (Hold.cons hK8 (Hold.cons hX8 (Hold.nil hb8)))⟩ (fun hHeld => ?_)
        clear hK K hHeld
        (try simp only [Act.put, List.getElem_toArray, List.getElem_cons_zero, List.getElem_cons_succ, List.setIfInBounds_toArray, List.set_cons_zero, List.set_cons_succ])
        refine wpAnyH_done (by kernel_rfl) ?_ _
        have hd16 : ¬ d = 16 := by omega
        have hm16 : 16 ≤ m := by omega
        have hm17 : (16 : Int) ≤ (d : Int) := by omega
        go_wp2_with fail
        go_roundw
        case rel => exact ⟨_, _, _, _, _, rfl, hcut, hbr2, hst2, hX8, hK8, hZ8, hb8, hab2, hre2⟩
        case measure => simp [slen]; omega
      · go_simp
        refine (cW _ hS1).mono ?_
        rintro e w5 ⟨rfl, hS5⟩
        go_wp2_with fail
        refine hK.out _ _ ⟨_, hS5⟩ (fun hHeld => ?_)
        clear hK K hHeld
        (try simp only [Act.put, List.getElem_toArray, List.getElem_cons_zero, List.getElem_cons_succ, List.setIfInBounds_toArray, List.set_cons_zero, List.set_cons_succ])
        refine wpAnyH_ready (rs := [0]) (by kernel_rfl) (by simp) (AllReadyH.cons rfl (fun K hK => ?_) AllReadyH.nil)
        rw [if_pos (by rfl)]
        refine wp_load_row 76 _ rfl (G + 1) rfl _ _ _ _ (hS5.at 2 rfl) Tryd.underlying76 rfl hiS ?_
        refine hK.out _ _ ⟨_, hS5⟩ (fun hHeld => ?_)
        clear hK K hHeld
        (try simp only [Act.put, List.getElem_toArray, List.getElem_cons_zero, List.getElem_cons_succ, List.setIfInBounds_toArray, List.set_cons_zero, List.set_cons_succ])
        refine wpAnyH_ready (rs := [5]) (by kernel_rfl) (by simp) (AllReadyH.cons rfl (fun K hK => ?_) AllReadyH.nil)
        go_simp
        refine (cX _ hS5).mono ?_
        rintro e w6 ⟨rfl, hS6⟩
        go_wp2_with fail
        refine hK.out _ _ ⟨_, hS6⟩ (fun hHeld => ?_)
        clear hK K hHeld
        (try simp only [Act.put, List.getElem_toArray, List.getElem_cons_zero, List.getElem_cons_succ, List.setIfInBounds_toArray, List.set_cons_zero, List.set_cons_succ])
        refine wpAnyH_ready (rs := [6]) (by kernel_rfl) (by simp) (AllReadyH.cons rfl (fun K hK => ?_) AllReadyH.nil)
        go_simp
        refine (cS _ hS6).mono ?_
        rintro e w7 ⟨rfl, hS7⟩
        go_wp2_with fail
        refine hK.out _ _ ⟨_, hS7⟩ (fun hHeld => ?_)
        clear hK K hHeld
        (try simp only [Act.put, List.getElem_toArray, List.getElem_cons_zero, List.getElem_cons_succ, List.setIfInBounds_toArray, List.set_cons_zero, List.set_cons_succ])
        refine wpAnyH_ready (rs := [7]) (by kernel_rfl) (by simp) (AllReadyH.cons rfl (fun K hK => ?_) AllReadyH.nil)
        rw [if_pos (by rfl)]
        refine wp_store_row 76 _ _ rfl (G + 1) (nums .u32 (qI (stirN 12 (xr st (qW (tk)))))) rfl rfl _ _ (hS7.at 2 rfl) hiT rfl (nums_one _ _) ?_
        have hX8 := (hS7.at 2 rfl).setRow (qI (stirN 12 (xr st (qW (tk)))))
        have hK8 := (hS7.at 1 rfl).rowOther (G + 1) (nums .u32 (qI (stirN 12 (xr st (qW (tk)))))) (by omega)
        have hZ8 := (hS7.at 0 rfl).rowOther (G + 1) (nums .u32 (qI (stirN 12 (xr st (qW (tk)))))) (by omega)
        have hb8 := hS7.2.trans (below_setRow w7 (G + 1) (nums .u32 (qI (stirN 12 (xr st (qW (tk)))))) (by omega))
        generalize w7.setRow (G + 1) (nums .u32 (qI (stirN 12 (xr st (qW (tk)))))) = w8 at hX8 hK8 hZ8 hb8 ⊢
        refine hK.out _ _ ⟨stirN 12 (xr st (qW (tk))), Hold.cons hZ8 (Hold.cons hK8 (Hold.cons hX8 (Hold.nil hb8)))⟩ (fun hHeld => ?_)
        clear hK K hHeld
        (try simp only [Act.put, List.getElem_toArray, List.getElem_cons_zero, List.getElem_cons_succ, List.setIfInBounds_toArray, List.set_cons_zero, List.set_cons_succ])
        refine wpAnyH_done (by kernel_rfl) ?_ _
        have hd16 : ¬ d = 16 := by omega
        have hm16 : 16 ≤ m := by omega
        have hm17 : (16 : Int) ≤ (d : Int) := by omega
        go_wp2_with fail
        go_roundw
        case rel => exact ⟨_, _, _, _, _, rfl, hcut, hbr2, hst2, hX8, hK8, hZ8, hb8, hab2, hre2⟩
        case measure => simp [slen]; omega
    · have hm1 : ¬ (16 : Int) < (m : Int) := by omega
      have hrest : Hid (absorb k (ahead n) l = st ∧ l.drop (16 * ahead n) = r) := by
        have h1 := hab.out
        have h2 := hre.out
        have h3 : ahead m = 0 := by unfold ahead; omega
        rw [h3] at h1 h2
        exact ⟨h1.symm, h2.symm⟩
      have hrm := hq.len
      have cL := last_any k q m d r wr hqk (hq.below hb) (by omega) hbr
      have hfq := qW_lt (fill_by hbr)
      have hEq : Qd (endW k r) := by
        unfold endW
        split
        · exact dbl_lt (dbl_lt hqk)
        · exact dbl_lt hqk
      have hEd : Hid (endW k r = endW k r) := rfl
      generalize hE : endW k r = E at cL hEq
      have HE : Hid (endW k r = E) := hE
      clear hE hEd hab hre
      go_wp2_with (refine wpList_load_row rfl 76 _ rfl G rfl _ _ _ _ hK Tryd.underlying76 rfl hi ?_)
      refine cL.mono ?_
      rintro e w2 ⟨rfl, hb2⟩
      have hS2 := hS.below hb2
      have hZ2 := hZ.below hb2
      have hbb2 := hb.trans (hb2.mono hb.size)
      have hlt2 : G + 1 < w2.heap.size := hS2.lt
      clear hb2 hS hZ hb hK cL
      have hiW := info_nums .u32 (qI (qW (fillL r))) infoK rfl
      have hiE := info_nums .u32 (qI E) infoK rfl
      have hA1 : ArrI 76 .u32 ((w2.alloc (.cells #[.int .u32 0, .int .u32 0, .int .u32 0, .int .u32 0] 76)).alloc (.cells #[.int .u32 0, .int .u32 0, .int .u32 0, .int .u32 0] 76)) w2.heap.size [0, 0, 0, 0] := (ArrI.new 76 .u32 w2 [0, 0, 0, 0]).alloc _
      have hA2 : ArrI 76 .u32 ((w2.alloc (.cells #[.int .u32 0, .int .u32 0, .int .u32 0, .int .u32 0] 76)).alloc (.cells #[.int .u32 0, .int .u32 0, .int .u32 0, .int .u32 0] 76)) (w2.heap.size + 1) [0, 0, 0, 0] := (two_arr w2 [0, 0, 0, 0] 76).2.1
      have hA3 := hA2.rowOther w2.heap.size (nums .u32 (qI (qW (fillL r)))) (by omega)
      have hz1 : (nums .u32 [0, 0, 0, 0]).size = (nums .u32 (qI (qW (fillL r)))).size := rfl
      have hz2 : (nums .u32 [0, 0, 0, 0]).size = (nums .u32 (qI E)).size := rfl
      have hX5 := (hA1.setRow (qI (qW (fillL r)))).rowOther (w2.heap.size + 1) (nums .u32 (qI E)) (by omega)
      have hE5 := hA3.setRow (qI E)
      have hS5 := (((hS2.alloc (.cells #[.int .u32 0, .int .u32 0, .int .u32 0, .int .u32 0] 76)).alloc (.cells #[.int .u32 0, .int .u32 0, .int .u32 0, .int .u32 0] 76)).rowOther w2.heap.size (nums .u32 (qI (qW (fillL r)))) (by omega)).rowOther (w2.heap.size + 1) (nums .u32 (qI E)) (by omega)
      have hZ5 := (((hZ2.alloc (.cells #[.int .u32 0, .int .u32 0, .int .u32 0, .int .u32 0] 76)).alloc (.cells #[.int .u32 0, .int .u32 0, .int .u32 0, .int .u32 0] 76)).rowOther w2.heap.size (nums .u32 (qI (qW (fillL r)))) (by omega)).rowOther (w2.heap.size + 1) (nums .u32 (qI E)) (by omega)
      have hb5 := (((hbb2.alloc hbb2.size (.cells #[.int .u32 0, .int .u32 0, .int .u32 0, .int .u32 0] 76)).alloc (by simp; omega) (.cells #[.int .u32 0, .int .u32 0, .int .u32 0, .int .u32 0] 76)).trans (below_setRow _ w2.heap.size (nums .u32 (qI (qW (fillL r)))) (by omega))).trans (below_setRow _ (w2.heap.size + 1) (nums .u32 (qI E)) (by omega))
      go_wp2_with (first | refine wpList_store_row rfl 76 _ _ rfl w2.heap.size (nums .u32 (qI (qW (fillL r)))) rfl rfl _ _ hA1 hiW hz1 (nums_one _ _) ?_ | refine wpList_store_row rfl 76 _ _ rfl (w2.heap.size + 1) (nums .u32 (qI E)) rfl rfl _ _ hA3 hiE hz2 (nums_one _ _) ?_)
      clear hA1 hA2 hA3 hS2 hZ2 hbb2
      generalize (((w2.alloc _).alloc _).setRow w2.heap.size _).setRow (w2.heap.size + 1) _ = W5 at hX5 hE5 hS5 hZ5 hb5 ⊢
      have hx1 := xr_lt hst hfq
      have hx2 := xr_lt hx1 hEq
      have hx3 := stirN_lt hx2 12
      have hx4 := xr_lt hx3 hEq
      have hS0 : Hold w [(76, .u32, G + 1, qI st), (76, .u32, w2.heap.size, qI (qW (fillL r))), (76, .u32, w2.heap.size + 1, qI E), (22, .u8, w.heap.size, List.replicate 16 0)] W5 := Hold.cons hS5 (Hold.cons hX5 (Hold.cons hE5 (Hold.cons hZ5 (Hold.nil hb5))))
      have c1 := fun W hS => hold_call (w := w) (l := [(76, .u32, G + 1, qI st), (76, .u32, w2.heap.size, qI (qW (fillL r))), (76, .u32, w2.heap.size + 1, qI E), (22, .u8, w.heap.size, List.replicate 16 0)]) hS (with_any st (qW (fillL r)) W hst hfq)
      have c2 := fun W hS => hold_call (w := w) (l := [(76, .u32, G + 1, qI st), (76, .u32, w2.heap.size, qI (qW (fillL r))), (76, .u32, w2.heap.size + 1, qI E), (22, .u8, w.heap.size, List.replicate 16 0)]) hS (with_any (xr st (qW (fillL r))) E W hx1 hEq)
      have c3 := fun W hS => hold_call (w := w) (l := [(76, .u32, G + 1, qI st), (76, .u32, w2.heap.size, qI (qW (fillL r))), (76, .u32, w2.heap.size + 1, qI E), (22, .u8, w.heap.size, List.replicate 16 0)]) hS (stirred_any (xr (xr st (qW (fillL r))) E) W hx2)
      have c4 := fun W hS => hold_call (w := w) (l := [(76, .u32, G + 1, qI st), (76, .u32, w2.heap.size, qI (qW (fillL r))), (76, .u32, w2.heap.size + 1, qI E), (22, .u8, w.heap.size, List.replicate 16 0)]) hS (with_any (stirN 12 (xr (xr st (qW (fillL r))) E)) E W hx3 hEq)
      have c5 := fun W hS => hold_call (w := w) (l := [(76, .u32, G + 1, qI st), (76, .u32, w2.heap.size, qI (qW (fillL r))), (76, .u32, w2.heap.size + 1, qI E), (22, .u8, w.heap.size, List.replicate 16 0)]) hS (bytes_any (xr (stirN 12 (xr (xr st (qW (fillL r))) E)) E) W hx4)
      have hdg2 : Hid (digest kl l = qB (xr (stirN 12 (xr (xr st (qW (fillL r))) E)) E)) := by
        have h1 := hdg.out
        rw [hrest.out.1, hrest.out.2, HE.out] at h1
        exact h1
      clear hdg hrest HE
      generalize qB (xr (stirN 12 (xr (xr st (qW (fillL r))) E)) E) = D at c5 hdg2
      have hiD : (Tryd.prog.info? 22).map (·.size) = some (nums .u8 D).size := by
        have h1 : D.length = 16 := by
          have h2 := digest_len kl l
          rw [hdg2.out] at h2
          exact h2
        exact info_nums .u8 D infoB h1
      have hDl : D.length = 16 := by
        have h2 := digest_len kl l
        rw [hdg2.out] at h2
        exact h2
      have hzD : (nums .u8 (List.replicate 16 0)).size = (nums .u8 D).size := by rw [nums_size, nums_size, hDl]; rfl
      refine wp_region_held_drew (S := fun W => ∃ z : List Int, Hold w [(76, .u32, G + 1, qI st), (76, .u32, w2.heap.size, qI (qW (fillL r))), (76, .u32, w2.heap.size + 1, qI E), (22, .u8, w.heap.size, z)] W) (by kernel_rfl) ⟨_, hS0.drew⟩ (fun hHeld => ?_)
      clear hHeld
      have hS1 := hS0.drew
      refine wpAnyH_take (i := 0) (v := _) rfl (by kernel_rfl) (by kernel_rfl) (by kernel_rfl) (fun _ _ _ h => h) (yieldsIf_load_mid (by rfl) _ _ rfl _ _ rfl _ _ (fun _ ⟨_, h⟩ => (h.at 0 rfl).range) Tryd.underlying76 rfl (show _ = some ((qI st).map (Value.int .u32)).length from infoK)) ⟨_, hS1⟩ ?_
      (try simp only [Act.put, List.getElem_toArray, List.getElem_cons_zero, List.getElem_cons_succ, List.setIfInBounds_toArray, List.set_cons_zero, List.set_cons_succ])
      refine wpAnyH_take (i := 1) (v := _) rfl (by kernel_rfl) (by kernel_rfl) (by kernel_rfl) (fun _ _ _ h => h) (yieldsIf_load_mid (by rfl) _ _ rfl _ _ rfl _ _ (fun _ ⟨_, h⟩ => (h.at 1 rfl).range) Tryd.underlying76 rfl (show _ = some ((qI (qW (fillL r))).map (Value.int .u32)).length from infoK)) ⟨_, hS1⟩ ?_
      (try simp only [Act.put, List.getElem_toArray, List.getElem_cons_zero, List.getElem_cons_succ, List.setIfInBounds_toArray, List.set_cons_zero, List.set_cons_succ])
      refine wpAnyH_take (i := 3) (v := _) rfl (by kernel_rfl) (by kernel_rfl) (by kernel_rfl) (fun _ _ _ h => h) (yieldsIf_load_mid (by rfl) _ _ rfl _ _ rfl _ _ (fun _ ⟨_, h⟩ => (h.at 2 rfl).range) Tryd.underlying76 rfl (show _ = some ((qI E).map (Value.int .u32)).length from infoK)) ⟨_, hS1⟩ ?_
      (try simp only [Act.put, List.getElem_toArray, List.getElem_cons_zero, List.getElem_cons_succ, List.setIfInBounds_toArray, List.set_cons_zero, List.set_cons_succ])
      refine wpAnyH_take (i := 6) (v := _) rfl (by kernel_rfl) (by kernel_rfl) (by kernel_rfl) (fun _ _ _ h => h) (yieldsIf_load_mid (by rfl) _ _ rfl _ _ rfl _ _ (fun _ ⟨_, h⟩ => (h.at 2 rfl).range) Tryd.underlying76 rfl (show _ = some ((qI E).map (Value.int .u32)).length from infoK)) ⟨_, hS1⟩ ?_
      (try simp only [Act.put, List.getElem_toArray, List.getElem_cons_zero, List.getElem_cons_succ, List.setIfInBounds_toArray, List.set_cons_zero, List.set_cons_succ])
      refine wpAnyH_ready (rs := [2]) (by kernel_rfl) (by simp) (AllReadyH.cons rfl (fun K hK => ?_) AllReadyH.nil)
      go_simp
      refine (c1 _ hS1).mono ?_
      rintro e w2a ⟨rfl, hS2a⟩
      go_wp2_with fail
      refine hK.out _ _ ⟨_, hS2a⟩ (fun hHeld => ?_)
      clear hK K hHeld
      (try simp only [Act.put, List.getElem_toArray, List.getElem_cons_zero, List.getElem_cons_succ, List.setIfInBounds_toArray, List.set_cons_zero, List.set_cons_succ])
      refine wpAnyH_ready (rs := [4]) (by kernel_rfl) (by simp) (AllReadyH.cons rfl (fun K hK => ?_) AllReadyH.nil)
      go_simp
      refine (c2 _ hS2a).mono ?_
      rintro e w3a ⟨rfl, hS3a⟩
      go_wp2_with fail
      refine hK.out _ _ ⟨_, hS3a⟩ (fun hHeld => ?_)
      clear hK K hHeld
      (try simp only [Act.put, List.getElem_toArray, List.getElem_cons_zero, List.getElem_cons_succ, List.setIfInBounds_toArray, List.set_cons_zero, List.set_cons_succ])
      refine wpAnyH_ready (rs := [5]) (by kernel_rfl) (by simp) (AllReadyH.cons rfl (fun K hK => ?_) AllReadyH.nil)
      go_simp
      refine (c3 _ hS3a).mono ?_
      rintro e w4a ⟨rfl, hS4a⟩
      go_wp2_with fail
      refine hK.out _ _ ⟨_, hS4a⟩ (fun hHeld => ?_)
      clear hK K hHeld
      (try simp only [Act.put, List.getElem_toArray, List.getElem_cons_zero, List.getElem_cons_succ, List.setIfInBounds_toArray, List.set_cons_zero, List.set_cons_succ])
      refine wpAnyH_ready (rs := [7]) (by kernel_rfl) (by simp) (AllReadyH.cons rfl (fun K hK => ?_) AllReadyH.nil)
      go_simp
      refine (c4 _ hS4a).mono ?_
      rintro e w5a ⟨rfl, hS5a⟩
      go_wp2_with fail
      refine hK.out _ _ ⟨_, hS5a⟩ (fun hHeld => ?_)
      clear hK K hHeld
      (try simp only [Act.put, List.getElem_toArray, List.getElem_cons_zero, List.getElem_cons_succ, List.setIfInBounds_toArray, List.set_cons_zero, List.set_cons_succ])
      refine wpAnyH_ready (rs := [8]) (by kernel_rfl) (by simp) (AllReadyH.cons rfl (fun K hK => ?_) AllReadyH.nil)
      go_simp
      refine (c5 _ hS5a).mono ?_
      rintro e w6a ⟨rfl, hS6a⟩
      go_wp2_with fail
      refine hK.out _ _ ⟨_, hS6a⟩ (fun hHeld => ?_)
      clear hK K hHeld
      (try simp only [Act.put, List.getElem_toArray, List.getElem_cons_zero, List.getElem_cons_succ, List.setIfInBounds_toArray, List.set_cons_zero, List.set_cons_succ])
      refine wpAnyH_ready (rs := [9]) (by kernel_rfl) (by simp) (AllReadyH.cons rfl (fun K hK => ?_) AllReadyH.nil)
      rw [if_pos (by rfl)]
      refine wp_store_row 22 _ _ rfl w.heap.size (nums .u8 D) rfl rfl _ _ (hS6a.at 3 rfl) hiD hzD (nums_one _ _) ?_
      have hZ9 := (hS6a.at 3 rfl).setRow D
      have hE9 := (hS6a.at 2 rfl).rowOther w.heap.size (nums .u8 D) (by omega)
      have hX9 := (hS6a.at 1 rfl).rowOther w.heap.size (nums .u8 D) (by omega)
      have hS9 := (hS6a.at 0 rfl).rowOther w.heap.size (nums .u8 D) (by omega)
      have hb9 := hS6a.2.trans (below_setRow w6a w.heap.size (nums .u8 D) (Nat.le_refl _))
      generalize w6a.setRow w.heap.size (nums .u8 D) = w9 at hZ9 hE9 hX9 hS9 hb9 ⊢
      refine hK.out _ _ ⟨D, Hold.cons hS9 (Hold.cons hX9 (Hold.cons hE9 (Hold.cons hZ9 (Hold.nil hb9))))⟩ (fun hHeld => ?_)
      clear hK K hHeld
      (try simp only [Act.put, List.getElem_toArray, List.getElem_cons_zero, List.getElem_cons_succ, List.setIfInBounds_toArray, List.set_cons_zero, List.set_cons_succ])
      refine wpAnyH_take (i := 10) (v := ?yv10) rfl (by kernel_rfl) (by kernel_rfl) (by kernel_rfl) (fun _ _ _ h => h) (Or.inl ⟨by rfl, ?yy10⟩) ⟨D, Hold.cons hS9 (Hold.cons hX9 (Hold.cons hE9 (Hold.cons hZ9 (Hold.nil hb9))))⟩ ?yr10
      case yy10 => (intro w hSw; (try dsimp only at hSw); go_simp; try with_reducible rfl)
      (try simp only [Act.put, List.getElem_toArray, List.getElem_cons_zero, List.getElem_cons_succ, List.setIfInBounds_toArray, List.set_cons_zero, List.set_cons_succ])
      refine wpAnyH_done (by kernel_rfl) ?_ _
      go_wp2_with fail
      exact bodyPost_ret (results_row_tmp (p := 4) (u := 5) rfl _ _ w.heap.size _ _ _ rfl hZ9 Tryd.underlying22 rfl hiD) rfl ⟨by rw [hdg2.out]; rfl, hb9⟩

end Go.Proofs.YtphdbpljgilcgaaDoor.M
