/-
  Own text: contracts of route's askerOf, to, nearer, through, and of the reference's 'may'.
-/
import Derived.Test.YtdjeafaaclhpkaaZAsk
import Derived.Test.YtdjeafaaclhpkaaZGood
namespace Go.Proofs.Ytdjeafaaclhpkaa.M
open Go.ChangeShapes Go.WideShapes Go.ChangeAt Go.RowKit

set_option maxRecDepth 20000 in
set_option maxHeartbeats 2000000 in
theorem askerOf_ok (e : Int) (p : Option Addr) (n c : Nat) (ms : List Mb) (a0 a1 a2 a3 a4 a5 a6 a7 a8 st : Int) (w : World) (hr : RdM w p n c ms) (hn : n ≤ 5864062014805) (h0 : chk e ms = true) (h1 : okW [a0, a1, a2, a3, a4, a5, a6, a7, a8] = true) (h2 : isSt st = true) :
    Calls Try.prog 30 #[.agg #[.int .i64 e, .slice p n c], .agg #[.int .i64 a0, .int .i64 a1, .int .i64 a2, .int .i64 a3, .int .i64 a4, .int .i64 a5, .int .i64 a6, .int .i64 a7, .int .i64 a8], .int .i64 st] w fun r w' => r = .returned (.tuple #[.agg #[.int .i64 a0, .int .i64 a1, .int .i64 a2, .int .i64 a3, .int .i64 a4, .int .i64 a5, .int .i64 a6, .int .i64 a7, .int .i64 a8, .int .i64 st], .int .i64 0]) ∧ Below w.heap.size w w' := by
  have hA : ArrI 24 .i64 (((w.alloc (.cells #[.int .i64 e, .slice p n c] 33)).alloc (.cells #[.int .i64 a0, .int .i64 a1, .int .i64 a2, .int .i64 a3, .int .i64 a4, .int .i64 a5, .int .i64 a6, .int .i64 a7, .int .i64 a8] 24)).alloc (.cells #[.int .i64 0, .int .i64 0, .int .i64 0, .int .i64 0, .int .i64 0, .int .i64 0, .int .i64 0, .int .i64 0, .int .i64 0, .int .i64 0] 57)) (w.heap.size + 1) [a0, a1, a2, a3, a4, a5, a6, a7, a8] := (new_at (by simp) (nine_cells (t := 24) (w.alloc (.cells #[.int .i64 e, .slice p n c] 33)) a0 a1 a2 a3 a4 a5 a6 a7 a8)).alloc (.cells #[.int .i64 0, .int .i64 0, .int .i64 0, .int .i64 0, .int .i64 0, .int .i64 0, .int .i64 0, .int .i64 0, .int .i64 0, .int .i64 0] 57)
  have hZ : ArrI 57 .i64 (((w.alloc (.cells #[.int .i64 e, .slice p n c] 33)).alloc (.cells #[.int .i64 a0, .int .i64 a1, .int .i64 a2, .int .i64 a3, .int .i64 a4, .int .i64 a5, .int .i64 a6, .int .i64 a7, .int .i64 a8] 24)).alloc (.cells #[.int .i64 0, .int .i64 0, .int .i64 0, .int .i64 0, .int .i64 0, .int .i64 0, .int .i64 0, .int .i64 0, .int .i64 0, .int .i64 0] 57)) (w.heap.size + 1 + 1) [0, 0, 0, 0, 0, 0, 0, 0, 0, 0] := new_at (by simp) (ArrI.new 57 .i64 ((w.alloc (.cells #[.int .i64 e, .slice p n c] 33)).alloc (.cells #[.int .i64 a0, .int .i64 a1, .int .i64 a2, .int .i64 a3, .int .i64 a4, .int .i64 a5, .int .i64 a6, .int .i64 a7, .int .i64 a8] 24)) [0, 0, 0, 0, 0, 0, 0, 0, 0, 0])
  have hb0 : Below w.heap.size w (((w.alloc (.cells #[.int .i64 e, .slice p n c] 33)).alloc (.cells #[.int .i64 a0, .int .i64 a1, .int .i64 a2, .int .i64 a3, .int .i64 a4, .int .i64 a5, .int .i64 a6, .int .i64 a7, .int .i64 a8] 24)).alloc (.cells #[.int .i64 0, .int .i64 0, .int .i64 0, .int .i64 0, .int .i64 0, .int .i64 0, .int .i64 0, .int .i64 0, .int .i64 0, .int .i64 0] 57)) := (((Below.refl _ _).alloc (Nat.le_refl _) _).alloc (by simp) _).alloc (by simp; omega) _
  have hC := Check_any e p n c ms _ (hr.below hb0) hn
  unfold chkV at hC
  rw [h0] at hC
  simp only [if_true] at hC
  have hT := fun W => askerAt_ok a0 a1 a2 a3 a4 a5 a6 a7 a8 st W h1 h2
  clear h0 h1 h2 hr
  go_enter Try.func30, Try.ntmps30
  go_wp2_with fail
  refine hC.mono ?_
  rintro r w1 ⟨rfl, hb1⟩
  replace hA := hA.below hb1
  replace hZ := hZ.below hb1
  have hbb := hb0.trans (hb1.mono hb0.size)
  obtain ⟨c0, c1, c2, c3, c4, c5, c6, c7, c8⟩ := nine hA
  clear hA hb1 hb0 hC
  go_wp2_with fail
  refine (hT _).mono ?_
  rintro r w2 ⟨rfl, hb2⟩
  replace hZ := hZ.below hb2
  replace hbb := hbb.trans (hb2.mono hbb.size)
  obtain ⟨f0, f1, f2, f3, f4, f5, f6, f7, f8, f9⟩ := ten_free hZ
  obtain ⟨z0, z1, z2, z3, z4, z5, z6, z7, z8, z9⟩ := ten hZ
  clear c0 c1 c2 c3 c4 c5 c6 c7 c8 hb2 hT
  go_wp2_with fail
  obtain ⟨W, hW1, hY, hbW⟩ := ten_set rfl hZ (by omega) w hbb a0 a1 a2 a3 a4 a5 a6 a7 a8 st
  rw [← hW1]
  exact bodyPost_ret (results_row_tmp (p := 6) (u := 7) rfl _ _ (w.heap.size + 1 + 1) _ _ _ rfl hY Try.underlying57 rfl asker_info) rfl ⟨rfl, hbW⟩

set_option maxRecDepth 20000 in
set_option maxHeartbeats 2000000 in
theorem askerOf_no (e : Int) (p : Option Addr) (n c : Nat) (ms : List Mb) (a0 a1 a2 a3 a4 a5 a6 a7 a8 st : Int) (w : World) (hr : RdM w p n c ms) (hn : n ≤ 5864062014805) (ev : Int) (hev : mayR e ms [a0, a1, a2, a3, a4, a5, a6, a7, a8] st = ev) (h0 : ev ≠ 0) :
    Calls Try.prog 30 #[.agg #[.int .i64 e, .slice p n c], .agg #[.int .i64 a0, .int .i64 a1, .int .i64 a2, .int .i64 a3, .int .i64 a4, .int .i64 a5, .int .i64 a6, .int .i64 a7, .int .i64 a8], .int .i64 st] w fun r w' => r = .returned (.tuple #[.agg #[.int .i64 0, .int .i64 0, .int .i64 0, .int .i64 0, .int .i64 0, .int .i64 0, .int .i64 0, .int .i64 0, .int .i64 0, .int .i64 0], .int .i64 ev]) ∧ Below w.heap.size w w' := by
  have hA : ArrI 24 .i64 (((w.alloc (.cells #[.int .i64 e, .slice p n c] 33)).alloc (.cells #[.int .i64 a0, .int .i64 a1, .int .i64 a2, .int .i64 a3, .int .i64 a4, .int .i64 a5, .int .i64 a6, .int .i64 a7, .int .i64 a8] 24)).alloc (.cells #[.int .i64 0, .int .i64 0, .int .i64 0, .int .i64 0, .int .i64 0, .int .i64 0, .int .i64 0, .int .i64 0, .int .i64 0, .int .i64 0] 57)) (w.heap.size + 1) [a0, a1, a2, a3, a4, a5, a6, a7, a8] := (new_at (by simp) (nine_cells (t := 24) (w.alloc (.cells #[.int .i64 e, .slice p n c] 33)) a0 a1 a2 a3 a4 a5 a6 a7 a8)).alloc (.cells #[.int .i64 0, .int .i64 0, .int .i64 0, .int .i64 0, .int .i64 0, .int .i64 0, .int .i64 0, .int .i64 0, .int .i64 0, .int .i64 0] 57)
  have hZ : ArrI 57 .i64 (((w.alloc (.cells #[.int .i64 e, .slice p n c] 33)).alloc (.cells #[.int .i64 a0, .int .i64 a1, .int .i64 a2, .int .i64 a3, .int .i64 a4, .int .i64 a5, .int .i64 a6, .int .i64 a7, .int .i64 a8] 24)).alloc (.cells #[.int .i64 0, .int .i64 0, .int .i64 0, .int .i64 0, .int .i64 0, .int .i64 0, .int .i64 0, .int .i64 0, .int .i64 0, .int .i64 0] 57)) (w.heap.size + 1 + 1) [0, 0, 0, 0, 0, 0, 0, 0, 0, 0] := new_at (by simp) (ArrI.new 57 .i64 ((w.alloc (.cells #[.int .i64 e, .slice p n c] 33)).alloc (.cells #[.int .i64 a0, .int .i64 a1, .int .i64 a2, .int .i64 a3, .int .i64 a4, .int .i64 a5, .int .i64 a6, .int .i64 a7, .int .i64 a8] 24)) [0, 0, 0, 0, 0, 0, 0, 0, 0, 0])
  have hb0 : Below w.heap.size w (((w.alloc (.cells #[.int .i64 e, .slice p n c] 33)).alloc (.cells #[.int .i64 a0, .int .i64 a1, .int .i64 a2, .int .i64 a3, .int .i64 a4, .int .i64 a5, .int .i64 a6, .int .i64 a7, .int .i64 a8] 24)).alloc (.cells #[.int .i64 0, .int .i64 0, .int .i64 0, .int .i64 0, .int .i64 0, .int .i64 0, .int .i64 0, .int .i64 0, .int .i64 0, .int .i64 0] 57)) := (((Below.refl _ _).alloc (Nat.le_refl _) _).alloc (by simp) _).alloc (by simp; omega) _
  have hC := Check_any e p n c ms _ (hr.below hb0) hn
  unfold chkV at hC
  unfold mayR at hev
  cases hk : chk e ms with
  | false =>
    rw [hk] at hC hev
    simp only [Bool.false_eq_true, if_false] at hC hev
    subst hev
    clear h0 hk hr
    go_enter Try.func30, Try.ntmps30
    go_wp2_with fail
    refine hC.mono ?_
    rintro r w1 ⟨rfl, hb1⟩
    replace hA := hA.below hb1
    replace hZ := hZ.below hb1
    have hbb := hb0.trans (hb1.mono hb0.size)
    obtain ⟨c0, c1, c2, c3, c4, c5, c6, c7, c8⟩ := nine hA
    obtain ⟨f0, f1, f2, f3, f4, f5, f6, f7, f8, f9⟩ := ten_free hZ
    obtain ⟨z0, z1, z2, z3, z4, z5, z6, z7, z8, z9⟩ := ten hZ
    clear c0 c1 c2 c3 c4 c5 c6 c7 c8 hA hb1 hb0 hC
    go_wp2_with fail
    obtain ⟨W, hW1, hY, hbW⟩ := ten_set rfl hZ (by omega) w hbb 0 0 0 0 0 0 0 0 0 0
    rw [← hW1]
    exact bodyPost_ret (results_row_tmp (p := 6) (u := 7) rfl _ _ (w.heap.size + 1 + 1) _ _ _ rfl hY Try.underlying57 rfl asker_info) rfl ⟨rfl, hbW⟩
  | true =>
    rw [hk] at hC hev
    simp only [if_true] at hC hev
    by_cases h1 : okW [a0, a1, a2, a3, a4, a5, a6, a7, a8] = true ∧ isSt st = true
    · rw [if_pos h1] at hev
      exact absurd hev.symm h0
    · rw [if_neg h1] at hev
      subst hev
      have hT := fun W => askerAt_no a0 a1 a2 a3 a4 a5 a6 a7 a8 st W h1
      clear h0 h1 hk hr
      go_enter Try.func30, Try.ntmps30
      go_wp2_with fail
      refine hC.mono ?_
      rintro r w1 ⟨rfl, hb1⟩
      replace hA := hA.below hb1
      replace hZ := hZ.below hb1
      have hbb := hb0.trans (hb1.mono hb0.size)
      obtain ⟨c0, c1, c2, c3, c4, c5, c6, c7, c8⟩ := nine hA
      clear hA hb1 hb0 hC
      go_wp2_with fail
      refine (hT _).mono ?_
      rintro r w2 ⟨rfl, hb2⟩
      replace hZ := hZ.below hb2
      replace hbb := hbb.trans (hb2.mono hbb.size)
      obtain ⟨f0, f1, f2, f3, f4, f5, f6, f7, f8, f9⟩ := ten_free hZ
      obtain ⟨z0, z1, z2, z3, z4, z5, z6, z7, z8, z9⟩ := ten hZ
      clear c0 c1 c2 c3 c4 c5 c6 c7 c8 hb2 hT
      go_wp2_with fail
      obtain ⟨W, hW1, hY, hbW⟩ := ten_set rfl hZ (by omega) w hbb 0 0 0 0 0 0 0 0 0 0
      rw [← hW1]
      exact bodyPost_ret (results_row_tmp (p := 6) (u := 7) rfl _ _ (w.heap.size + 1 + 1) _ _ _ rfl hY Try.underlying57 rfl asker_info) rfl ⟨rfl, hbW⟩

set_option maxRecDepth 20000 in
set_option maxHeartbeats 2000000 in
theorem may_any (e : Int) (p : Option Addr) (n c : Nat) (ms : List Mb) (a0 a1 a2 a3 a4 a5 a6 a7 a8 st : Int) (w : World) (hr : RdM w p n c ms) (hn : n ≤ 5864062014805) :
    Calls Try.prog 33 #[.agg #[.int .i64 e, .slice p n c], .agg #[.int .i64 a0, .int .i64 a1, .int .i64 a2, .int .i64 a3, .int .i64 a4, .int .i64 a5, .int .i64 a6, .int .i64 a7, .int .i64 a8], .int .i64 st] w fun r w' => r = .returned (.int .i64 (mayR e ms [a0, a1, a2, a3, a4, a5, a6, a7, a8] st)) ∧ Below w.heap.size w w' := by
  have hA : ArrI 24 .i64 ((w.alloc (.cells #[.int .i64 e, .slice p n c] 33)).alloc (.cells #[.int .i64 a0, .int .i64 a1, .int .i64 a2, .int .i64 a3, .int .i64 a4, .int .i64 a5, .int .i64 a6, .int .i64 a7, .int .i64 a8] 24)) (w.heap.size + 1) [a0, a1, a2, a3, a4, a5, a6, a7, a8] := new_at (by simp) (nine_cells (t := 24) (w.alloc (.cells #[.int .i64 e, .slice p n c] 33)) a0 a1 a2 a3 a4 a5 a6 a7 a8)
  have hb0 : Below w.heap.size w ((w.alloc (.cells #[.int .i64 e, .slice p n c] 33)).alloc (.cells #[.int .i64 a0, .int .i64 a1, .int .i64 a2, .int .i64 a3, .int .i64 a4, .int .i64 a5, .int .i64 a6, .int .i64 a7, .int .i64 a8] 24)) := ((Below.refl _ _).alloc (Nat.le_refl _) _).alloc (by simp) _
  have hC := rCheck_any e p n c ms _ (hr.below hb0) hn
  have hW := fun W => rWay_any a0 a1 a2 a3 a4 a5 a6 a7 a8 W
  unfold chkV at hC
  unfold wayV at hW
  have HM : Hid (mayR e ms [a0, a1, a2, a3, a4, a5, a6, a7, a8] st = if chk e ms = true then (if okW [a0, a1, a2, a3, a4, a5, a6, a7, a8] = true ∧ isSt st = true then 0 else 1) else 80) := rfl
  generalize chk e ms = b1 at *
  generalize okW [a0, a1, a2, a3, a4, a5, a6, a7, a8] = b2 at *
  clear hr
  cases b1 with
  | false =>
    simp only [Bool.false_eq_true, if_false] at hC
    have HN : Hid (mayR e ms [a0, a1, a2, a3, a4, a5, a6, a7, a8] st = 80) := HM.out
    clear HM
    go_enter Try.func33, Try.ntmps33
    go_wp2_with fail
    refine hC.mono ?_
    rintro r w1 ⟨rfl, hb1⟩
    go_wp2_with fail
    go_ret
    exact ⟨ret_int HN.out.symm, hb0.trans (hb1.mono hb0.size)⟩
  | true =>
    simp only [if_true] at hC
    cases b2 with
    | false =>
      simp only [Bool.false_eq_true, if_false] at hW
      have HN : Hid (mayR e ms [a0, a1, a2, a3, a4, a5, a6, a7, a8] st = 1) := by unfold Hid; rw [HM.out]; simp
      clear HM
      go_enter Try.func33, Try.ntmps33
      go_wp2_with fail
      refine hC.mono ?_
      rintro r w1 ⟨rfl, hb1⟩
      replace hA := hA.below hb1
      have hbb := hb0.trans (hb1.mono hb0.size)
      obtain ⟨c0, c1, c2, c3, c4, c5, c6, c7, c8⟩ := nine hA
      go_wp2_with fail
      refine (hW _).mono ?_
      rintro r w2 ⟨rfl, hb2⟩
      go_wp2_with fail
      go_ret
      exact ⟨ret_int HN.out.symm, hbb.trans (hb2.mono hbb.size)⟩
    | true =>
      simp only [if_true] at hW
      have HN : Hid (mayR e ms [a0, a1, a2, a3, a4, a5, a6, a7, a8] st = if isSt st = true then 0 else 1) := by unfold Hid; rw [HM.out]; simp
      clear HM
      have HN0 : Hid (st < 0 → mayR e ms [a0, a1, a2, a3, a4, a5, a6, a7, a8] st = 1) := by
        intro h; rw [HN.out, if_neg]; unfold isSt; simp; omega
      have HN1 : Hid (2 < st → mayR e ms [a0, a1, a2, a3, a4, a5, a6, a7, a8] st = 1) := by
        intro h; rw [HN.out, if_neg]; unfold isSt; simp; omega
      have HN2 : Hid (¬ st < 0 → ¬ 2 < st → mayR e ms [a0, a1, a2, a3, a4, a5, a6, a7, a8] st = 0) := by
        intro h h2; rw [HN.out, if_pos]; unfold isSt; simp; omega
      clear HN
      go_enter Try.func33, Try.ntmps33
      go_wp2_with fail
      refine hC.mono ?_
      rintro r w1 ⟨rfl, hb1⟩
      replace hA := hA.below hb1
      have hbb := hb0.trans (hb1.mono hb0.size)
      obtain ⟨c0, c1, c2, c3, c4, c5, c6, c7, c8⟩ := nine hA
      go_wp2_with fail
      refine (hW _).mono ?_
      rintro r w2 ⟨rfl, hb2⟩
      have hb3 := hbb.trans (hb2.mono hbb.size)
      clear hb2 hbb hb0 hb1 hA
      by_cases k1 : st < 0
      · have HK := HN0.out k1
        go_wp2_with fail
        go_ret
        exact ⟨ret_int HK.symm, hb3⟩
      by_cases k2 : 2 < st
      · have HK := HN1.out k2
        go_wp2_with fail
        go_ret
        exact ⟨ret_int HK.symm, hb3⟩
      have HK := HN2.out (by omega) (by omega)
      go_wp2_with fail
      go_ret
      exact ⟨ret_int HK.symm, hb3⟩

set_option maxRecDepth 20000 in
set_option maxHeartbeats 2000000 in
theorem to_any (a0 a1 a2 a3 a4 a5 a6 a7 a8 : Int) (i j : Nat) (hi : i < 3) (hj : j < 3) (mn : Int) (mf : Bool) (w : World) :
    Calls Try.prog 51 #[.agg #[.int .i64 a0, .int .i64 a1, .int .i64 a2, .int .i64 a3, .int .i64 a4, .int .i64 a5, .int .i64 a6, .int .i64 a7, .int .i64 a8, .int .i64 (i : Int)], .agg #[.int .i64 mn, .int .i64 (j : Int), .bool mf]] w fun r w' => r = .returned (.int .i64 (wv [a0, a1, a2, a3, a4, a5, a6, a7, a8] i j)) ∧ Below w.heap.size w w' := by
  have hA : ArrI 57 .i64 ((w.alloc (.cells #[.int .i64 a0, .int .i64 a1, .int .i64 a2, .int .i64 a3, .int .i64 a4, .int .i64 a5, .int .i64 a6, .int .i64 a7, .int .i64 a8, .int .i64 (i : Int)] 57)).alloc (.cells #[.int .i64 mn, .int .i64 (j : Int), .bool mf] 36)) w.heap.size [a0, a1, a2, a3, a4, a5, a6, a7, a8, (i : Int)] := (ArrI.new 57 .i64 w [a0, a1, a2, a3, a4, a5, a6, a7, a8, (i : Int)]).alloc _
  have hb0 : Below w.heap.size w ((w.alloc (.cells #[.int .i64 a0, .int .i64 a1, .int .i64 a2, .int .i64 a3, .int .i64 a4, .int .i64 a5, .int .i64 a6, .int .i64 a7, .int .i64 a8, .int .i64 (i : Int)] 57)).alloc (.cells #[.int .i64 mn, .int .i64 (j : Int), .bool mf] 36)) := ((Below.refl _ _).alloc (Nat.le_refl _) _).alloc (by simp) _
  have c1 := hA.cell (i := i * 3 + j) (by simp; omega)
  have HW : Hid (wv [a0, a1, a2, a3, a4, a5, a6, a7, a8] i j = [a0, a1, a2, a3, a4, a5, a6, a7, a8, (i : Int)].getD (i * 3 + j) 0) := by
    unfold Hid wv
    have h9 : i * 3 + j < 9 := by omega
    generalize i * 3 + j = q at h9
    match q, h9 with
    | 0, _ | 1, _ | 2, _ | 3, _ | 4, _ | 5, _ | 6, _ | 7, _ | 8, _ => rfl
  generalize List.getD _ (i * 3 + j) 0 = X at c1 HW
  have hi2 : (i : Int) < 3 := by omega
  have hj2 : (j : Int) < 3 := by omega
  clear hA
  go_enter Try.func51, Try.ntmps51
  go_wp2_with fail
  go_quiet (fail)
  go_wp2_with fail
  go_ret
  exact ⟨ret_int HW.out.symm, below_drewN hb0 nq⟩

end Go.Proofs.Ytdjeafaaclhpkaa.M
