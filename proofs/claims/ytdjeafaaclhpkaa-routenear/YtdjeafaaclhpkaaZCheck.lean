/-
  Own text: contracts of route's Check and of the reference's.
-/
import Derived.Test.YtdjeafaaclhpkaaZPure
import Derived.Test.YtdjeafaaclhpkaaYBase
import Derived.Test.YtdjeafaaclhpkaaZArr
namespace Go.Proofs.Ytdjeafaaclhpkaa.M
open Go.ChangeShapes Go.WideShapes Go.ChangeAt Go.RowKit

/-- What Check answers. -/
def wayV (b : Bool) : Value := .int .i64 (if b then 0 else 1)

/-- The ways of the sites ahead of k may be, and of site k those to sites ahead of b. -/
def okUp (xs : List Int) (k b : Nat) : Prop := (∀ i, i < k → ∀ j, j < 3 → cellOk xs i j = true) ∧ ∀ j, j < b → cellOk xs k j = true

theorem okUp.one {xs : List Int} {k b : Nat} (h : okUp xs k b) (hc : cellOk xs k b = true) : okUp xs k (b + 1) := by
  refine ⟨h.1, fun j hj => ?_⟩
  by_cases e : j = b
  · rw [e]; exact hc
  · exact h.2 j (by omega)

theorem okUp.row {xs : List Int} {k : Nat} (h : okUp xs k 3) : okUp xs (k + 1) 0 := by
  refine ⟨fun i hi j hj => ?_, fun j hj => absurd hj (Nat.not_lt_zero _)⟩
  by_cases e : i = k
  · rw [e]; exact h.2 j hj
  · exact h.1 i (by omega) j hj

theorem okUp.all {xs : List Int} (h : okUp xs 3 0) : okW xs = true := (okW_iff xs).2 h.1

theorem cellOk_mk {xs : List Int} {i j : Nat} (h1 : ¬ wv xs i j < 0) (h2 : ¬ 1000 < wv xs i j) (h3 : wv xs i j = wv xs j i) (h4 : i = j → wv xs i j = 0) : cellOk xs i j = true := by
  unfold cellOk
  rw [decide_eq_true (by omega), decide_eq_true (by omega), beq_iff_eq.2 h3]
  by_cases e : i = j
  · rw [beq_iff_eq.2 (h4 e)]; simp
  · simp [e]

theorem cellOk_no {xs : List Int} {i j : Nat} (h : wv xs i j < 0 ∨ 1000 < wv xs i j ∨ wv xs i j ≠ wv xs j i ∨ (i = j ∧ wv xs i j ≠ 0)) : cellOk xs i j = false := by
  cases hk : cellOk xs i j with
  | false => rfl
  | true =>
    unfold cellOk at hk
    simp at hk
    omega

theorem idx3 (x0 x1 x2 : Int) (j : Nat) (hj : j < 3) (w : World) : (Instr.index 22 (.agg #[.int .i64 x0, .int .i64 x1, .int .i64 x2]) (.int .i64 (j : Int))).run Try.prog w = .ok (.int .i64 (if j = 0 then x0 else if j = 1 then x1 else x2)) w := by
  have hu := Try.underlying22
  have hi := Try.underlying3
  have hn : (0 ≤ (j : Int) ∧ (j : Int) < ((3 : Nat) : Int)) := by omega
  obtain rfl | rfl | rfl : j = 0 ∨ j = 1 ∨ j = 2 := by omega
  all_goals simp [Instr.index, run_underlying hu, asIntOf, go_sem, part, isAgg, run_underlying hi]

theorem nine_cells {t : TypeId} (w : World) (a0 a1 a2 a3 a4 a5 a6 a7 a8 : Int) : ArrI t .i64 (w.alloc (.cells #[.int .i64 a0, .int .i64 a1, .int .i64 a2, .int .i64 a3, .int .i64 a4, .int .i64 a5, .int .i64 a6, .int .i64 a7, .int .i64 a8] t)) w.heap.size [a0, a1, a2, a3, a4, a5, a6, a7, a8] := ArrI.new t .i64 w [a0, a1, a2, a3, a4, a5, a6, a7, a8]

set_option maxRecDepth 20000 in
set_option maxHeartbeats 2000000 in
set_option linter.unusedSimpArgs false in
theorem Way_any (a0 a1 a2 a3 a4 a5 a6 a7 a8 : Int) (w : World) :
    Calls Try.prog 11 #[.agg #[.int .i64 a0, .int .i64 a1, .int .i64 a2, .int .i64 a3, .int .i64 a4, .int .i64 a5, .int .i64 a6, .int .i64 a7, .int .i64 a8]] w fun r w' => r = .returned (wayV (okW [a0, a1, a2, a3, a4, a5, a6, a7, a8])) ∧ Below w.heap.size w w' := by
  have hb0 : Below w.heap.size w (w.alloc (.cells #[.int .i64 a0, .int .i64 a1, .int .i64 a2, .int .i64 a3, .int .i64 a4, .int .i64 a5, .int .i64 a6, .int .i64 a7, .int .i64 a8] 24)) := (Below.refl _ _).alloc (Nat.le_refl _) _
  have hc : ∀ i, i < 9 → (w.alloc (.cells #[.int .i64 a0, .int .i64 a1, .int .i64 a2, .int .i64 a3, .int .i64 a4, .int .i64 a5, .int .i64 a6, .int .i64 a7, .int .i64 a8] 24)).cell? ⟨w.heap.size, i, none⟩ = some (.int .i64 ([a0, a1, a2, a3, a4, a5, a6, a7, a8].getD i 0)) := fun i hi => (nine_cells w a0 a1 a2 a3 a4 a5 a6 a7 a8).cell hi
  generalize hxs : [a0, a1, a2, a3, a4, a5, a6, a7, a8] = xs at *
  go_enter Try.func11, Try.ntmps11
  go_wp2_with fail
  clear hxs
  generalize (w.alloc (.cells #[.int .i64 a0, .int .i64 a1, .int .i64 a2, .int .i64 a3, .int .i64 a4, .int .i64 a5, .int .i64 a6, .int .i64 a7, .int .i64 a8] 24)) = w0 at *
  generalize hg : w.heap.size = g at *
  go_loopw [6] (fun i wr => ∃ k : Nat, k ≤ 3 ∧ i = .int .i64 k ∧ wr = w0 ∧ Hid (okUp xs k 0)) (fun i _ => 3 - (intOf i).toNat)
  case atStart => exact ⟨0, by decide, rfl, rfl, ⟨fun i hi => absurd hi (Nat.not_lt_zero _), fun i hi => absurd hi (Nat.not_lt_zero _)⟩⟩
  case round =>
    obtain ⟨k, hk, rfl, rfl, HU⟩ := hrel
    by_cases h : k < 3
    · have c0 := hc (k * 3) (by omega)
      have c1 := hc (k * 3 + 1) (by omega)
      have c2 := hc (k * 3 + 2) (by omega)
      obtain ⟨X0, HX0⟩ : ∃ X, Hid (xs.getD (k * 3) 0 = X) := ⟨_, rfl⟩
      obtain ⟨X1, HX1⟩ : ∃ X, Hid (xs.getD (k * 3 + 1) 0 = X) := ⟨_, rfl⟩
      obtain ⟨X2, HX2⟩ : ∃ X, Hid (xs.getD (k * 3 + 2) 0 = X) := ⟨_, rfl⟩
      rw [HX0.out] at c0
      rw [HX1.out] at c1
      rw [HX2.out] at c2
      go_wp2_with fail
      go_loopw [12] (fun j w1 => ∃ b : Nat, b ≤ 3 ∧ j = .int .i64 b ∧ w1 = wr ∧ Hid (okUp xs k b)) (fun j _ => 3 - (intOf j).toNat)
      case atStart => exact ⟨0, by decide, rfl, rfl, HU⟩
      case round =>
        clear HU
        obtain ⟨b, hb, rfl, rfl, HU⟩ := hrel
        by_cases hbb : b < 3
        · have hd1 := hc (b * 3 + k) (by omega)
          obtain rfl | rfl | rfl : b = 0 ∨ b = 1 ∨ b = 2 := by omega
          · have e1 : wv xs k 0 = X0 := HX0.out
            have e2 : wv xs 0 k = xs.getD (k) 0 := by unfold wv; simp
            have hd2 : wr.cell? ⟨g, k, none⟩ = some (.int .i64 (xs.getD (k) 0)) := by simpa using hd1
            clear hd1
            have HY : Hid (∀ X Y, wv xs k 0 = X → wv xs 0 k = Y → (X < 0 ∨ 1000 < X ∨ X ≠ Y ∨ (k = 0 ∧ X ≠ 0)) → okW xs = false) := by
              intro X Y hX hY hh
              subst hX hY
              exact okW_no h (by decide) (cellOk_no hh)
            have HZ : Hid (∀ X Y, wv xs k 0 = X → wv xs 0 k = Y → ¬ X < 0 → ¬ 1000 < X → X = Y → (k = 0 → X = 0) → cellOk xs k 0 = true) := by
              intro X Y hX hY h1 h2 h3 h4
              subst hX hY
              exact cellOk_mk h1 h2 h3 h4
            rw [e1, e2] at HY HZ
            generalize xs.getD (k) 0 = Y at *
            clear e1 e2
            have hix := fun W => idx3 X0 X1 X2 0 (by decide) W
            simp only [Int.cast_ofNat_Int, Nat.reduceEqDiff, if_true, if_false] at hix
            by_cases h1 : X0 < 0
            · have HN : Hid (okW xs = false) := HY.out X0 Y rfl rfl (Or.inl h1)
              clear HY HZ
              go_wp2_with fail
              go_ret
              exact ⟨by rw [HN.out]; rfl, by first | exact hb0 | (rw [hg]; exact hb0)⟩
            by_cases h2 : 1000 < X0
            · have HN : Hid (okW xs = false) := HY.out X0 Y rfl rfl (Or.inr (Or.inl h2))
              clear HY HZ
              go_wp2_with fail
              go_ret
              exact ⟨by rw [HN.out]; rfl, by first | exact hb0 | (rw [hg]; exact hb0)⟩
            by_cases h3 : X0 = Y
            · have h3b : (X0 != Y) = false := by simp [h3]
              by_cases h4 : k = 0
              · have h4b : ((k : Int) == 0) = true := by rw [h4]; rfl
                by_cases h5 : X0 = 0
                · have HN : Hid (okUp xs k (0 + 1)) := HU.out.one (HZ.out X0 Y rfl rfl h1 h2 h3 fun _ => h5)
                  have h5b : (X0 != 0) = false := by simp [h5]
                  clear HY HZ HU h3 h4 h5
                  go_wp2_with fail
                  go_roundw
                  case rel => exact ⟨0 + 1, by decide, by go_num, (by first | trivial | rfl), HN⟩
                  case measure => simp [intOf]
                · have HN : Hid (okW xs = false) := HY.out X0 Y rfl rfl (Or.inr (Or.inr (Or.inr ⟨h4, h5⟩)))
                  have h5b : (X0 != 0) = true := by simp [h5]
                  clear HY HZ HU h3 h4 h5
                  go_wp2_with fail
                  go_ret
                  exact ⟨by rw [HN.out]; rfl, by first | exact hb0 | (rw [hg]; exact hb0)⟩
              · have h4b : ((k : Int) == 0) = false := by simp; omega
                have HN : Hid (okUp xs k (0 + 1)) := HU.out.one (HZ.out X0 Y rfl rfl h1 h2 h3 fun e => absurd e h4)
                clear HY HZ HU h3 h4
                go_wp2_with fail
                go_roundw
                case rel => exact ⟨0 + 1, by decide, by go_num, (by first | trivial | rfl), HN⟩
                case measure => simp [intOf]
            · have HN : Hid (okW xs = false) := HY.out X0 Y rfl rfl (Or.inr (Or.inr (Or.inl h3)))
              have h3b : (X0 != Y) = true := by simp [h3]
              clear HY HZ HU h3
              go_wp2_with fail
              go_ret
              exact ⟨by rw [HN.out]; rfl, by first | exact hb0 | (rw [hg]; exact hb0)⟩
          · have e1 : wv xs k 1 = X1 := HX1.out
            have e2 : wv xs 1 k = xs.getD (3 + k) 0 := by unfold wv; simp
            have hd2 : wr.cell? ⟨g, 3 + k, none⟩ = some (.int .i64 (xs.getD (3 + k) 0)) := by simpa using hd1
            clear hd1
            have HY : Hid (∀ X Y, wv xs k 1 = X → wv xs 1 k = Y → (X < 0 ∨ 1000 < X ∨ X ≠ Y ∨ (k = 1 ∧ X ≠ 0)) → okW xs = false) := by
              intro X Y hX hY hh
              subst hX hY
              exact okW_no h (by decide) (cellOk_no hh)
            have HZ : Hid (∀ X Y, wv xs k 1 = X → wv xs 1 k = Y → ¬ X < 0 → ¬ 1000 < X → X = Y → (k = 1 → X = 0) → cellOk xs k 1 = true) := by
              intro X Y hX hY h1 h2 h3 h4
              subst hX hY
              exact cellOk_mk h1 h2 h3 h4
            rw [e1, e2] at HY HZ
            generalize xs.getD (3 + k) 0 = Y at *
            clear e1 e2
            have hix := fun W => idx3 X0 X1 X2 1 (by decide) W
            simp only [Int.cast_ofNat_Int, Nat.reduceEqDiff, if_true, if_false] at hix
            by_cases h1 : X1 < 0
            · have HN : Hid (okW xs = false) := HY.out X1 Y rfl rfl (Or.inl h1)
              clear HY HZ
              go_wp2_with fail
              go_ret
              exact ⟨by rw [HN.out]; rfl, by first | exact hb0 | (rw [hg]; exact hb0)⟩
            by_cases h2 : 1000 < X1
            · have HN : Hid (okW xs = false) := HY.out X1 Y rfl rfl (Or.inr (Or.inl h2))
              clear HY HZ
              go_wp2_with fail
              go_ret
              exact ⟨by rw [HN.out]; rfl, by first | exact hb0 | (rw [hg]; exact hb0)⟩
            by_cases h3 : X1 = Y
            · have h3b : (X1 != Y) = false := by simp [h3]
              by_cases h4 : k = 1
              · have h4b : ((k : Int) == 1) = true := by rw [h4]; rfl
                by_cases h5 : X1 = 0
                · have HN : Hid (okUp xs k (1 + 1)) := HU.out.one (HZ.out X1 Y rfl rfl h1 h2 h3 fun _ => h5)
                  have h5b : (X1 != 0) = false := by simp [h5]
                  clear HY HZ HU h3 h4 h5
                  go_wp2_with fail
                  go_roundw
                  case rel => exact ⟨1 + 1, by decide, by go_num, (by first | trivial | rfl), HN⟩
                  case measure => simp [intOf]
                · have HN : Hid (okW xs = false) := HY.out X1 Y rfl rfl (Or.inr (Or.inr (Or.inr ⟨h4, h5⟩)))
                  have h5b : (X1 != 0) = true := by simp [h5]
                  clear HY HZ HU h3 h4 h5
                  go_wp2_with fail
                  go_ret
                  exact ⟨by rw [HN.out]; rfl, by first | exact hb0 | (rw [hg]; exact hb0)⟩
              · have h4b : ((k : Int) == 1) = false := by simp; omega
                have HN : Hid (okUp xs k (1 + 1)) := HU.out.one (HZ.out X1 Y rfl rfl h1 h2 h3 fun e => absurd e h4)
                clear HY HZ HU h3 h4
                go_wp2_with fail
                go_roundw
                case rel => exact ⟨1 + 1, by decide, by go_num, (by first | trivial | rfl), HN⟩
                case measure => simp [intOf]
            · have HN : Hid (okW xs = false) := HY.out X1 Y rfl rfl (Or.inr (Or.inr (Or.inl h3)))
              have h3b : (X1 != Y) = true := by simp [h3]
              clear HY HZ HU h3
              go_wp2_with fail
              go_ret
              exact ⟨by rw [HN.out]; rfl, by first | exact hb0 | (rw [hg]; exact hb0)⟩
          · have e1 : wv xs k 2 = X2 := HX2.out
            have e2 : wv xs 2 k = xs.getD (6 + k) 0 := by unfold wv; simp
            have hd2 : wr.cell? ⟨g, 6 + k, none⟩ = some (.int .i64 (xs.getD (6 + k) 0)) := by simpa using hd1
            clear hd1
            have HY : Hid (∀ X Y, wv xs k 2 = X → wv xs 2 k = Y → (X < 0 ∨ 1000 < X ∨ X ≠ Y ∨ (k = 2 ∧ X ≠ 0)) → okW xs = false) := by
              intro X Y hX hY hh
              subst hX hY
              exact okW_no h (by decide) (cellOk_no hh)
            have HZ : Hid (∀ X Y, wv xs k 2 = X → wv xs 2 k = Y → ¬ X < 0 → ¬ 1000 < X → X = Y → (k = 2 → X = 0) → cellOk xs k 2 = true) := by
              intro X Y hX hY h1 h2 h3 h4
              subst hX hY
              exact cellOk_mk h1 h2 h3 h4
            rw [e1, e2] at HY HZ
            generalize xs.getD (6 + k) 0 = Y at *
            clear e1 e2
            have hix := fun W => idx3 X0 X1 X2 2 (by decide) W
            simp only [Int.cast_ofNat_Int, Nat.reduceEqDiff, if_true, if_false] at hix
            by_cases h1 : X2 < 0
            · have HN : Hid (okW xs = false) := HY.out X2 Y rfl rfl (Or.inl h1)
              clear HY HZ
              go_wp2_with fail
              go_ret
              exact ⟨by rw [HN.out]; rfl, by first | exact hb0 | (rw [hg]; exact hb0)⟩
            by_cases h2 : 1000 < X2
            · have HN : Hid (okW xs = false) := HY.out X2 Y rfl rfl (Or.inr (Or.inl h2))
              clear HY HZ
              go_wp2_with fail
              go_ret
              exact ⟨by rw [HN.out]; rfl, by first | exact hb0 | (rw [hg]; exact hb0)⟩
            by_cases h3 : X2 = Y
            · have h3b : (X2 != Y) = false := by simp [h3]
              by_cases h4 : k = 2
              · have h4b : ((k : Int) == 2) = true := by rw [h4]; rfl
                by_cases h5 : X2 = 0
                · have HN : Hid (okUp xs k (2 + 1)) := HU.out.one (HZ.out X2 Y rfl rfl h1 h2 h3 fun _ => h5)
                  have h5b : (X2 != 0) = false := by simp [h5]
                  clear HY HZ HU h3 h4 h5
                  go_wp2_with fail
                  go_roundw
                  case rel => exact ⟨2 + 1, by decide, by go_num, (by first | trivial | rfl), HN⟩
                  case measure => simp [intOf]
                · have HN : Hid (okW xs = false) := HY.out X2 Y rfl rfl (Or.inr (Or.inr (Or.inr ⟨h4, h5⟩)))
                  have h5b : (X2 != 0) = true := by simp [h5]
                  clear HY HZ HU h3 h4 h5
                  go_wp2_with fail
                  go_ret
                  exact ⟨by rw [HN.out]; rfl, by first | exact hb0 | (rw [hg]; exact hb0)⟩
              · have h4b : ((k : Int) == 2) = false := by simp; omega
                have HN : Hid (okUp xs k (2 + 1)) := HU.out.one (HZ.out X2 Y rfl rfl h1 h2 h3 fun e => absurd e h4)
                clear HY HZ HU h3 h4
                go_wp2_with fail
                go_roundw
                case rel => exact ⟨2 + 1, by decide, by go_num, (by first | trivial | rfl), HN⟩
                case measure => simp [intOf]
            · have HN : Hid (okW xs = false) := HY.out X2 Y rfl rfl (Or.inr (Or.inr (Or.inl h3)))
              have h3b : (X2 != Y) = true := by simp [h3]
              clear HY HZ HU h3
              go_wp2_with fail
              go_ret
              exact ⟨by rw [HN.out]; rfl, by first | exact hb0 | (rw [hg]; exact hb0)⟩
        · obtain rfl : b = 3 := by omega
          go_wp2_with fail
          go_roundw
          case rel => exact ⟨k + 1, by omega, by go_num, trivial, HU.out.row⟩
          case measure => simp [intOf]; omega
    · obtain rfl : k = 3 := by omega
      have HN : Hid (okW xs = true) := HU.out.all
      go_wp2_with fail
      go_ret
      exact ⟨by rw [HN.out]; rfl, by first | exact hb0 | (rw [hg]; exact hb0)⟩

end Go.Proofs.Ytdjeafaaclhpkaa.M
