/-
  Own text: contracts of route's askerOf, to, nearer, through, and of the reference's 'may'.
-/
import Derived.Test.YtdjeafaaclhpkabDoorZAsk
import Derived.Test.YtdjeafaaclhpkabDoorZGood
namespace Go.Proofs.YtdjeafaaclhpkabDoor.M
open Go.ChangeShapes Go.WideShapes Go.ChangeAt Go.RowKit

set_option maxRecDepth 20000 in
set_option maxHeartbeats 2000000 in
theorem askerOf_ok (e : Int) (p : Option Addr) (n c : Nat) (ms : List Mb) (a0 a1 a2 a3 a4 a5 a6 a7 a8 st : Int) (w : World) (hr : RdM w p n c ms) (hn : n ≤ 5864062014805) (h0 : chk e ms = true) (h1 : okW [a0, a1, a2, a3, a4, a5, a6, a7, a8] = true) (h2 : isSt st = true) :
    Calls Tryd.prog 23 #[.agg #[.int .i64 e, .slice p n c], .agg #[.int .i64 a0, .int .i64 a1, .int .i64 a2, .int .i64 a3, .int .i64 a4, .int .i64 a5, .int .i64 a6, .int .i64 a7, .int .i64 a8], .int .i64 st] w fun r w' => r = .returned (.tuple #[.agg #[.int .i64 a0, .int .i64 a1, .int .i64 a2, .int .i64 a3, .int .i64 a4, .int .i64 a5, .int .i64 a6, .int .i64 a7, .int .i64 a8, .int .i64 st], .int .i64 0]) ∧ Below w.heap.size w w' := by
  have hA : ArrI 25 .i64 (((w.alloc (.cells #[.int .i64 e, .slice p n c] 31)).alloc (.cells #[.int .i64 a0, .int .i64 a1, .int .i64 a2, .int .i64 a3, .int .i64 a4, .int .i64 a5, .int .i64 a6, .int .i64 a7, .int .i64 a8] 25)).alloc (.cells #[.int .i64 0, .int .i64 0, .int .i64 0, .int .i64 0, .int .i64 0, .int .i64 0, .int .i64 0, .int .i64 0, .int .i64 0, .int .i64 0] 47)) (w.heap.size + 1) [a0, a1, a2, a3, a4, a5, a6, a7, a8] := (new_at (by simp) (nine_cells (t := 25) (w.alloc (.cells #[.int .i64 e, .slice p n c] 31)) a0 a1 a2 a3 a4 a5 a6 a7 a8)).alloc (.cells #[.int .i64 0, .int .i64 0, .int .i64 0, .int .i64 0, .int .i64 0, .int .i64 0, .int .i64 0, .int .i64 0, .int .i64 0, .int .i64 0] 47)
  have hZ : ArrI 47 .i64 (((w.alloc (.cells #[.int .i64 e, .slice p n c] 31)).alloc (.cells #[.int .i64 a0, .int .i64 a1, .int .i64 a2, .int .i64 a3, .int .i64 a4, .int .i64 a5, .int .i64 a6, .int .i64 a7, .int .i64 a8] 25)).alloc (.cells #[.int .i64 0, .int .i64 0, .int .i64 0, .int .i64 0, .int .i64 0, .int .i64 0, .int .i64 0, .int .i64 0, .int .i64 0, .int .i64 0] 47)) (w.heap.size + 1 + 1) [0, 0, 0, 0, 0, 0, 0, 0, 0, 0] := new_at (by simp) (ArrI.new 47 .i64 ((w.alloc (.cells #[.int .i64 e, .slice p n c] 31)).alloc (.cells #[.int .i64 a0, .int .i64 a1, .int .i64 a2, .int .i64 a3, .int .i64 a4, .int .i64 a5, .int .i64 a6, .int .i64 a7, .int .i64 a8] 25)) [0, 0, 0, 0, 0, 0, 0, 0, 0, 0])
  have hb0 : Below w.heap.size w (((w.alloc (.cells #[.int .i64 e, .slice p n c] 31)).alloc (.cells #[.int .i64 a0, .int .i64 a1, .int .i64 a2, .int .i64 a3, .int .i64 a4, .int .i64 a5, .int .i64 a6, .int .i64 a7, .int .i64 a8] 25)).alloc (.cells #[.int .i64 0, .int .i64 0, .int .i64 0, .int .i64 0, .int .i64 0, .int .i64 0, .int .i64 0, .int .i64 0, .int .i64 0, .int .i64 0] 47)) := (((Below.refl _ _).alloc (Nat.le_refl _) _).alloc (by simp) _).alloc (by simp; omega) _
  have hC := Check_any e p n c ms _ (hr.below hb0) hn
  unfold chkV at hC
  rw [h0] at hC
  simp only [if_true] at hC
  have hT := fun W => askerAt_ok a0 a1 a2 a3 a4 a5 a6 a7 a8 st W h1 h2
  clear h0 h1 h2 hr
  go_enter Tryd.func23, Tryd.ntmps23
  go_wp2_with fail
  refine hC.mono ?_
  rintro r w1 ⟨rfl, hb1⟩
  replace hA := hA.below hb1
  replace hZ := hZ.below hb1
  have hbb := hb0.trans (hb1.mono hb0.size)
  obtain ⟨c0, c1, c2, c3, c4, c5, c6, c7, c8⟩ := nine hA
  clear hA hb1 hb0 hC
  go_wp2_with fail
  refine (hT _).mono ?_
  rintro r w2 ⟨rfl, hb2⟩
  replace hZ := hZ.below hb2
  replace hbb := hbb.trans (hb2.mono hbb.size)
  obtain ⟨f0, f1, f2, f3, f4, f5, f6, f7, f8, f9⟩ := ten_free hZ
  obtain ⟨z0, z1, z2, z3, z4, z5, z6, z7, z8, z9⟩ := ten hZ
  clear c0 c1 c2 c3 c4 c5 c6 c7 c8 hb2 hT
  go_wp2_with fail
  obtain ⟨W, hW1, hY, hbW⟩ := ten_set rfl hZ (by omega) w hbb a0 a1 a2 a3 a4 a5 a6 a7 a8 st
  rw [← hW1]
  exact bodyPost_ret (results_row_tmp (p := 6) (u := 7) rfl _ _ (w.heap.size + 1 + 1) _ _ _ rfl hY Tryd.underlying47 rfl asker_info) rfl ⟨rfl, hbW⟩

set_option maxRecDepth 20000 in
set_option maxHeartbeats 2000000 in
theorem askerOf_no (e : Int) (p : Option Addr) (n c : Nat) (ms : List Mb) (a0 a1 a2 a3 a4 a5 a6 a7 a8 st : Int) (w : World) (hr : RdM w p n c ms) (hn : n ≤ 5864062014805) (ev : Int) (hev : mayR e ms [a0, a1, a2, a3, a4, a5, a6, a7, a8] st = ev) (h0 : ev ≠ 0) :
    Calls Tryd.prog 23 #[.agg #[.int .i64 e, .slice p n c], .agg #[.int .i64 a0, .int .i64 a1, .int .i64 a2, .int .i64 a3, .int .i64 a4, .int .i64 a5, .int .i64 a6, .int .i64 a7, .int .i64 a8], .int .i64 st] w fun r w' => r = .returned (.tuple #[.agg #[.int .i64 0, .int .i64 0, .int .i64 0, .int .i64 0, .int .i64 0, .int .i64 0, .int .i64 0, .int .i64 0, .int .i64 0, .int .i64 0], .int .i64 ev]) ∧ Below w.heap.size w w' := by
  have hA : ArrI 25 .i64 (((w.alloc (.cells #[.int .i64 e, .slice p n c] 31)).alloc (.cells #[.int .i64 a0, .int .i64 a1, .int .i64 a2, .int .i64 a3, .int .i64 a4, .int .i64 a5, .int .i64 a6, .int .i64 a7, .int .i64 a8] 25)).alloc (.cells #[.int .i64 0, .int .i64 0, .int .i64 0, .int .i64 0, .int .i64 0, .int .i64 0, .int .i64 0, .int .i64 0, .int .i64 0, .int .i64 0] 47)) (w.heap.size + 1) [a0, a1, a2, a3, a4, a5, a6, a7, a8] := (new_at (by simp) (nine_cells (t := 25) (w.alloc (.cells #[.int .i64 e, .slice p n c] 31)) a0 a1 a2 a3 a4 a5 a6 a7 a8)).alloc (.cells #[.int .i64 0, .int .i64 0, .int .i64 0, .int .i64 0, .int .i64 0, .int .i64 0, .int .i64 0, .int .i64 0, .int .i64 0, .int .i64 0] 47)
  have hZ : ArrI 47 .i64 (((w.alloc (.cells #[.int .i64 e, .slice p n c] 31)).alloc (.cells #[.int .i64 a0, .int .i64 a1, .int .i64 a2, .int .i64 a3, .int .i64 a4, .int .i64 a5, .int .i64 a6, .int .i64 a7, .int .i64 a8] 25)).alloc (.cells #[.int .i64 0, .int .i64 0, .int .i64 0, .int .i64 0, .int .i64 0, .int .i64 0, .int .i64 0, .int .i64 0, .int .i64 0, .int .i64 0] 47)) (w.heap.size + 1 + 1) [0, 0, 0, 0, 0, 0, 0, 0, 0, 0] := new_at (by simp) (ArrI.new 47 .i64 ((w.alloc (.cells #[.int .i64 e, .slice p n c] 31)).alloc (.cells #[.int .i64 a0, .int .i64 a1, .int .i64 a2, .int .i64 a3, .int .i64 a4, .int .i64 a5, .int .i64 a6, .int .i64 a7, .int .i64 a8] 25)) [0, 0, 0, 0, 0, 0, 0, 0, 0, 0])
  have hb0 : Below w.heap.size w (((w.alloc (.cells #[.int .i64 e, .slice p n c] 31)).alloc (.cells #[.int .i64 a0, .int .i64 a1, .int .i64 a2, .int .i64 a3, .int .i64 a4, .int .i64 a5, .int .i64 a6, .int .i64 a7, .int .i64 a8] 25)).alloc (.cells #[.int .i64 0, .int .i64 0, .int .i64 0, .int .i64 0, .int .i64 0, .int .i64 0, .int .i64 0, .int .i64 0, .int .i64 0, .int .i64 0] 47)) := (((Below.refl _ _).alloc (Nat.le_refl _) _).alloc (by simp) _).alloc (by simp; omega) _
  have hC := Check_any e p n c ms _ (hr.below hb0) hn
  unfold chkV at hC
  unfold mayR at hev
  cases hk : chk e ms with
  | false =>
    rw [hk] at hC hev
    simp only [Bool.false_eq_true, if_false] at hC hev
    subst hev
    clear h0 hk hr
    go_enter Tryd.func23, Tryd.ntmps23
    go_wp2_with fail
    refine hC.mono ?_
    rintro r w1 ⟨rfl, hb1⟩
    replace hA := hA.below hb1
    replace hZ := hZ.below hb1
    have hbb := hb0.trans (hb1.mono hb0.size)
    obtain ⟨c0, c1, c2, c3, c4, c5, c6, c7, c8⟩ := nine hA
    obtain ⟨f0, f1, f2, f3, f4, f5, f6, f7, f8, f9⟩ := ten_free hZ
    obtain ⟨z0, z1, z2, z3, z4, z5, z6, z7, z8, z9⟩ := ten hZ
    clear c0 c1 c2 c3 c4 c5 c6 c7 c8 hA hb1 hb0 hC
    go_wp2_with fail
    obtain ⟨W, hW1, hY, hbW⟩ := ten_set rfl hZ (by omega) w hbb 0 0 0 0 0 0 0 0 0 0
    rw [← hW1]
    exact bodyPost_ret (results_row_tmp (p := 6) (u := 7) rfl _ _ (w.heap.size + 1 + 1) _ _ _ rfl hY Tryd.underlying47 rfl asker_info) rfl ⟨rfl, hbW⟩
  | true =>
    rw [hk] at hC hev
    simp only [if_true] at hC hev
    by_cases h1 : okW [a0, a1, a2, a3, a4, a5, a6, a7, a8] = true ∧ isSt st = true
    · rw [if_pos h1] at hev
      exact absurd hev.symm h0
    · rw [if_neg h1] at hev
      subst hev
      have hT := fun W => askerAt_no a0 a1 a2 a3 a4 a5 a6 a7 a8 st W h1
      clear h0 h1 hk hr
      go_enter Tryd.func23, Tryd.ntmps23
      go_wp2_with fail
      refine hC.mono ?_
      rintro r w1 ⟨rfl, hb1⟩
      replace hA := hA.below hb1
      replace hZ := hZ.below hb1
      have hbb := hb0.trans (hb1.mono hb0.size)
      obtain ⟨c0, c1, c2, c3, c4, c5, c6, c7, c8⟩ := nine hA
      clear hA hb1 hb0 hC
      go_wp2_with fail
      refine (hT _).mono ?_
      rintro r w2 ⟨rfl, hb2⟩
      replace hZ := hZ.below hb2
      replace hbb := hbb.trans (hb2.mono hbb.size)
      obtain ⟨f0, f1, f2, f3, f4, f5, f6, f7, f8, f9⟩ := ten_free hZ
      obtain ⟨z0, z1, z2, z3, z4, z5, z6, z7, z8, z9⟩ := ten hZ
      clear c0 c1 c2 c3 c4 c5 c6 c7 c8 hb2 hT
      go_wp2_with fail
      obtain ⟨W, hW1, hY, hbW⟩ := ten_set rfl hZ (by omega) w hbb 0 0 0 0 0 0 0 0 0 0
      rw [← hW1]
      exact bodyPost_ret (results_row_tmp (p := 6) (u := 7) rfl _ _ (w.heap.size + 1 + 1) _ _ _ rfl hY Tryd.underlying47 rfl asker_info) rfl ⟨rfl, hbW⟩

set_option maxRecDepth 20000 in
set_option maxHeartbeats 2000000 in
theorem to_any (a0 a1 a2 a3 a4 a5 a6 a7 a8 : Int) (i j : Nat) (hi : i < 3) (hj : j < 3) (mn : Int) (mf : Bool) (w : World) :
    Calls Tryd.prog 28 #[.agg #[.int .i64 a0, .int .i64 a1, .int .i64 a2, .int .i64 a3, .int .i64 a4, .int .i64 a5, .int .i64 a6, .int .i64 a7, .int .i64 a8, .int .i64 (i : Int)], .agg #[.int .i64 mn, .int .i64 (j : Int), .bool mf]] w fun r w' => r = .returned (.int .i64 (wv [a0, a1, a2, a3, a4, a5, a6, a7, a8] i j)) ∧ Below w.heap.size w w' := by
  have hA : ArrI 47 .i64 ((w.alloc (.cells #[.int .i64 a0, .int .i64 a1, .int .i64 a2, .int .i64 a3, .int .i64 a4, .int .i64 a5, .int .i64 a6, .int .i64 a7, .int .i64 a8, .int .i64 (i : Int)] 47)).alloc (.cells #[.int .i64 mn, .int .i64 (j : Int), .bool mf] 39)) w.heap.size [a0, a1, a2, a3, a4, a5, a6, a7, a8, (i : Int)] := (ArrI.new 47 .i64 w [a0, a1, a2, a3, a4, a5, a6, a7, a8, (i : Int)]).alloc _
  have hb0 : Below w.heap.size w ((w.alloc (.cells #[.int .i64 a0, .int .i64 a1, .int .i64 a2, .int .i64 a3, .int .i64 a4, .int .i64 a5, .int .i64 a6, .int .i64 a7, .int .i64 a8, .int .i64 (i : Int)] 47)).alloc (.cells #[.int .i64 mn, .int .i64 (j : Int), .bool mf] 39)) := ((Below.refl _ _).alloc (Nat.le_refl _) _).alloc (by simp) _
  have c1 := hA.cell (i := i * 3 + j) (by simp; omega)
  have HW : Hid (wv [a0, a1, a2, a3, a4, a5, a6, a7, a8] i j = [a0, a1, a2, a3, a4, a5, a6, a7, a8, (i : Int)].getD (i * 3 + j) 0) := by
    unfold Hid wv
    have h9 : i * 3 + j < 9 := by omega
    generalize i * 3 + j = q at h9
    match q, h9 with
    | 0, _ | 1, _ | 2, _ | 3, _ | 4, _ | 5, _ | 6, _ | 7, _ | 8, _ => rfl
  generalize List.getD _ (i * 3 + j) 0 = X at c1 HW
  have hi2 : (i : Int) < 3 := by omega
  have hj2 : (j : Int) < 3 := by omega
  clear hA
  go_enter Tryd.func28, Tryd.ntmps28
  go_wp2_with fail
  go_quiet (fail)
  go_wp2_with fail
  go_ret
  exact ⟨ret_int HW.out.symm, below_drewN hb0 nq⟩

end Go.Proofs.YtdjeafaaclhpkabDoor.M
