/-
  Own text: homes and wishes of a plan: whether they may be, and what a chain lacks.
-/
import Derived.Test.YtigojnpjpagfjaaDoorVMask
namespace Go.Proofs.YtigojnpjpagfjaaDoor.M
open Go.ChangeShapes Go.WideShapes Go.ChangeAt Go.RowKit

theorem idxH (h0 h1 h2 h3 h4 h5 : Int) (k : Nat) (hk : k < 6) (w : World) : (Instr.index 23 (.agg #[.int .i64 h0, .int .i64 h1, .int .i64 h2, .int .i64 h3, .int .i64 h4, .int .i64 h5]) (.int .i64 (k : Int))).run Tryd.prog w = .ok (.int .i64 (([h0, h1, h2, h3, h4, h5] : List Int).getD k 0)) w := by
  have hu := Tryd.underlying23
  have hi := Tryd.isAgg3
  have hz := Tryd.sizeOf3
  obtain rfl | rfl | rfl | rfl | rfl | rfl : k = 0 ∨ k = 1 ∨ k = 2 ∨ k = 3 ∨ k = 4 ∨ k = 5 := by omega
  all_goals simp [Instr.index, run_underlying hu, asIntOf, go_sem, part, hi, hz]

theorem idxW (v0 v1 v2 : Int) (k : Nat) (hk : k < 3) (w : World) : (Instr.index 25 (.agg #[.int .i64 v0, .int .i64 v1, .int .i64 v2]) (.int .i64 (k : Int))).run Tryd.prog w = .ok (.int .i64 (([v0, v1, v2] : List Int).getD k 0)) w := by
  have hu := Tryd.underlying25
  have hi := Tryd.isAgg3
  have hz := Tryd.sizeOf3
  obtain rfl | rfl | rfl : k = 0 ∨ k = 1 ∨ k = 2 := by omega
  all_goals simp [Instr.index, run_underlying hu, asIntOf, go_sem, part, hi, hz]

theorem drop_i {l : List Int} {k : Nat} (h : k < l.length) : l.drop k = l.getD k 0 :: l.drop (k + 1) := by
  rw [List.drop_eq_getElem_cons h, List.getD_eq_getElem?_getD, List.getElem?_eq_getElem h]
  rfl

/-- The same world. -/
def WIs (a b : World) : Prop := a = b

/-- Whether a number is a site; whether one is a wish. -/
def isSite (s : Int) : Bool := decide (0 ≤ s) && decide (s < 3)
def isWish (n : Int) : Bool := decide (0 ≤ n) && decide (n ≤ 6)

/-- Whether homes and wishes may be. -/
def planC (hs ws : List Int) : Bool := hs.all isSite && ws.all isWish

/-- What Check answers. -/
def planV (b : Bool) : Value := .int .i64 (if b then 0 else 1)

theorem ret_plan {a b : Bool} (h : a = b) : Ending.returned (planV a) = .returned (planV b) := by rw [h]

set_option maxRecDepth 20000 in
set_option maxHeartbeats 1000000 in
theorem pCheck_any (h0 h1 h2 h3 h4 h5 v0 v1 v2 : Int) (w : World) :
    Calls Tryd.prog 12 #[.agg #[.int .i64 h0, .int .i64 h1, .int .i64 h2, .int .i64 h3, .int .i64 h4, .int .i64 h5], .agg #[.int .i64 v0, .int .i64 v1, .int .i64 v2]] w fun r w' => r = .returned (planV (planC [h0, h1, h2, h3, h4, h5] [v0, v1, v2])) ∧ Below w.heap.size w w' := by
  have hb0 : Below w.heap.size w ((w.alloc (.cells #[.int .i64 h0, .int .i64 h1, .int .i64 h2, .int .i64 h3, .int .i64 h4, .int .i64 h5] 23)).alloc (.cells #[.int .i64 v0, .int .i64 v1, .int .i64 v2] 25)) := ((Below.refl _ _).alloc (Nat.le_refl _) _).alloc (by simp) _
  have hiH := fun k hk W => idxH h0 h1 h2 h3 h4 h5 k hk W
  have hiW := fun k hk W => idxW v0 v1 v2 k hk W
  generalize hR : planC [h0, h1, h2, h3, h4, h5] [v0, v1, v2] = R
  have HR : Hid (([h0, h1, h2, h3, h4, h5].all isSite && [v0, v1, v2].all isWish) = R) := hR
  clear hR
  obtain ⟨hs, HS⟩ : ∃ l : List Int, Hid (l = [h0, h1, h2, h3, h4, h5]) := ⟨_, rfl⟩
  obtain ⟨vs, VS⟩ : ∃ l : List Int, Hid (l = [v0, v1, v2]) := ⟨_, rfl⟩
  have hl6 : Hid (hs.length = 6) := by unfold Hid; rw [HS.out]; rfl
  have hl3 : Hid (vs.length = 3) := by unfold Hid; rw [VS.out]; rfl
  rw [← HS.out] at hiH HR
  rw [← VS.out] at hiW HR
  clear HS VS
  go_enter Tryd.func12, Tryd.ntmps12
  go_wp2_with fail
  go_loopw [10] (fun i wr => ∃ k : Nat, k ≤ 6 ∧ i = .int .i64 k ∧ Hid (((hs.drop k).all isSite && vs.all isWish) = R) ∧ WIs wr ((w.alloc (.cells #[.int .i64 h0, .int .i64 h1, .int .i64 h2, .int .i64 h3, .int .i64 h4, .int .i64 h5] 23)).alloc (.cells #[.int .i64 v0, .int .i64 v1, .int .i64 v2] 25))) (fun i _ => 6 - (intOf i).toNat)
  case atStart => exact ⟨0, by omega, rfl, HR, rfl⟩
  case round =>
    clear HR
    obtain ⟨k, hk, rfl, HR, HW⟩ := hrel
    have hwr : wr = _ := HW
    subst hwr
    clear HW
    by_cases h : k < 6
    · have h1 := hiH k h
      have hd := drop_i (l := hs) (k := k) (by rw [hl6.out]; exact h)
      have hR := HR.out
      rw [hd, List.all_cons] at hR
      clear HR hd hiH
      generalize hs.getD k 0 = x at *
      by_cases hx : 0 ≤ x ∧ x < 3
      · have HR : Hid (((hs.drop (k + 1)).all isSite && vs.all isWish) = R) := by unfold Hid; rw [← hR]; unfold isSite; simp [hx]
        obtain ⟨x0, x1⟩ := hx
        clear hR
        go_wp2_with fail
        go_roundw
        case rel => exact ⟨k + 1, by omega, by go_num, HR, rfl⟩
        case measure => simp [intOf]; omega
      · have HR : Hid (false = R) := by
          unfold Hid; rw [← hR]; unfold isSite
          have : (decide (0 ≤ x) && decide (x < 3)) = false := by simp; omega
          rw [this]; rfl
        clear hR
        rcases (show x < 0 ∨ 3 ≤ x by omega) with hx2 | hx2
        · go_wp2_with fail
          go_ret
          exact ⟨ret_plan HR.out, hb0⟩
        · have hx3 : ¬ x < 0 := by omega
          go_wp2_with fail
          go_ret
          exact ⟨ret_plan HR.out, hb0⟩
    · have HR2 : Hid (vs.all isWish = R) := by unfold Hid; rw [← HR.out, List.drop_of_length_le (by rw [hl6.out]; omega)]; rfl
      clear HR hiH
      go_wp2_with fail
      go_loopw [21] (fun i wr => ∃ k : Nat, k ≤ 3 ∧ i = .int .i64 k ∧ Hid ((vs.drop k).all isWish = R) ∧ WIs wr ((w.alloc (.cells #[.int .i64 h0, .int .i64 h1, .int .i64 h2, .int .i64 h3, .int .i64 h4, .int .i64 h5] 23)).alloc (.cells #[.int .i64 v0, .int .i64 v1, .int .i64 v2] 25))) (fun i _ => 3 - (intOf i).toNat)
      case atStart => exact ⟨0, by omega, rfl, HR2, rfl⟩
      case round =>
        clear HR2
        obtain ⟨k, hk, rfl, HR, HW⟩ := hrel
        have hwr : wr = _ := HW
        subst hwr
        clear HW
        by_cases h : k < 3
        · have h1 := hiW k h
          have hd := drop_i (l := vs) (k := k) (by rw [hl3.out]; exact h)
          have hR := HR.out
          rw [hd, List.all_cons] at hR
          clear HR hd hiW
          generalize vs.getD k 0 = x at *
          by_cases hx : 0 ≤ x ∧ x ≤ 6
          · have HR : Hid ((vs.drop (k + 1)).all isWish = R) := by unfold Hid; rw [← hR]; unfold isWish; simp [hx]
            obtain ⟨x0, x1⟩ := hx
            clear hR
            go_wp2_with fail
            go_roundw
            case rel => exact ⟨k + 1, by omega, by go_num, HR, rfl⟩
            case measure => simp [intOf]; omega
          · have HR : Hid (false = R) := by
              unfold Hid; rw [← hR]; unfold isWish
              have : (decide (0 ≤ x) && decide (x ≤ 6)) = false := by simp; omega
              rw [this]; rfl
            clear hR
            rcases (show x < 0 ∨ 6 < x by omega) with hx2 | hx2
            · go_wp2_with fail
              go_ret
              exact ⟨ret_plan HR.out, hb0⟩
            · have hx3 : ¬ x < 0 := by omega
              go_wp2_with fail
              go_ret
              exact ⟨ret_plan HR.out, hb0⟩
        · obtain rfl : k = 3 := by omega
          have HR2 : Hid (true = R) := by unfold Hid; rw [← HR.out, List.drop_of_length_le (by rw [hl3.out]; decide)]; rfl
          clear HR hiW h
          go_wp2_with fail
          go_ret
          exact ⟨ret_plan HR2.out, hb0⟩

end Go.Proofs.YtigojnpjpagfjaaDoor.M
