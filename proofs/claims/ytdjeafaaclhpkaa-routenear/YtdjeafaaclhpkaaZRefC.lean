/-
  Own text: contracts of the reference's Check of ways, of its 'may', of route's isSite, askerAt, askerOf.
-/
import Derived.Test.YtdjeafaaclhpkaaZCheck
import Derived.Test.YtdjeafaaclhpkaaYCheck
import Derived.Test.YtdjeafaaclhpkaaYRefC
namespace Go.Proofs.Ytdjeafaaclhpkaa.M
open Go.ChangeShapes Go.WideShapes Go.ChangeAt Go.RowKit

theorem ArrI.drewN {t : TypeId} {k : IntKind} {w : World} {g : Nat} {xs : List Int} (h : ArrI t k w g xs) (n : Nat) : ArrI t k (w.drewN n) g xs := h

theorem ArrI.drew {t : TypeId} {k : IntKind} {w : World} {g : Nat} {xs : List Int} (h : ArrI t k w g xs) : ArrI t k w.drew g xs := h

set_option maxRecDepth 20000 in
set_option maxHeartbeats 2000000 in
theorem rWay_any (a0 a1 a2 a3 a4 a5 a6 a7 a8 : Int) (w : World) :
    Calls Try.prog 12 #[.agg #[.int .i64 a0, .int .i64 a1, .int .i64 a2, .int .i64 a3, .int .i64 a4, .int .i64 a5, .int .i64 a6, .int .i64 a7, .int .i64 a8]] w fun r w' => r = .returned (wayV (okW [a0, a1, a2, a3, a4, a5, a6, a7, a8])) ∧ Below w.heap.size w w' := by
  have hb0 : Below w.heap.size w (w.alloc (.cells #[.int .i64 a0, .int .i64 a1, .int .i64 a2, .int .i64 a3, .int .i64 a4, .int .i64 a5, .int .i64 a6, .int .i64 a7, .int .i64 a8] 24)) := (Below.refl _ _).alloc (Nat.le_refl _) _
  have hA0 : ArrI 24 .i64 (w.alloc (.cells #[.int .i64 a0, .int .i64 a1, .int .i64 a2, .int .i64 a3, .int .i64 a4, .int .i64 a5, .int .i64 a6, .int .i64 a7, .int .i64 a8] 24)) w.heap.size [a0, a1, a2, a3, a4, a5, a6, a7, a8] := nine_cells w a0 a1 a2 a3 a4 a5 a6 a7 a8
  have hl : Hid ([a0, a1, a2, a3, a4, a5, a6, a7, a8].length = 9) := rfl
  generalize [a0, a1, a2, a3, a4, a5, a6, a7, a8] = xs at *
  go_enter Try.func12, Try.ntmps12
  go_wp2_with fail
  generalize (w.alloc (.cells #[.int .i64 a0, .int .i64 a1, .int .i64 a2, .int .i64 a3, .int .i64 a4, .int .i64 a5, .int .i64 a6, .int .i64 a7, .int .i64 a8] 24)) = w0 at *
  generalize hg : w.heap.size = g at *
  go_loopw [5] (fun i wr => ∃ k : Nat, k ≤ 3 ∧ i = .int .i64 k ∧ Below g w wr ∧ ArrI 24 .i64 wr g xs ∧ Hid (okUp xs k 0)) (fun i _ => 3 - (intOf i).toNat)
  case atStart => exact ⟨0, by decide, rfl, hb0, hA0, ⟨fun i hi => absurd hi (Nat.not_lt_zero _), fun i hi => absurd hi (Nat.not_lt_zero _)⟩⟩
  case round =>
    clear hb0 hA0
    obtain ⟨k, hk, rfl, hb0, hA0, HU⟩ := hrel
    by_cases h : k < 3
    · go_wp2_with fail
      obtain ⟨w5, hw5⟩ : ∃ x, x = wr := ⟨wr, rfl⟩
      go_loopw [8] (fun j w1 => ∃ b : Nat, b ≤ 3 ∧ j = .int .i64 b ∧ Below g w w1 ∧ ArrI 24 .i64 w1 g xs ∧ Hid (okUp xs k b)) (fun j _ => 3 - (intOf j).toNat)
      case atStart => exact ⟨0, by decide, rfl, hb0, hA0, HU⟩
      case round =>
        clear HU hb0 hA0 hw5 w5
        obtain ⟨b, hb, rfl, hb0, hA0, HU⟩ := hrel
        by_cases hbb : b < 3
        · have c1 := hA0.cell (i := k * 3 + b) (by rw [hl.out]; omega)
          have c2 := hA0.cell (i := b * 3 + k) (by rw [hl.out]; omega)
          have c3 := hA0.cell (i := k * 3 + k) (by rw [hl.out]; omega)
          have HY : Hid (∀ X Y Z, xs.getD (k * 3 + b) 0 = X → xs.getD (b * 3 + k) 0 = Y → xs.getD (k * 3 + k) 0 = Z → (X < 0 ∨ 1000 < X ∨ X ≠ Y ∨ Z ≠ 0) → okW xs = false) := by
            intro X Y Z hX hY hZ hh
            subst hX hY hZ
            rcases hh with hh | hh | hh | hh
            · exact okW_no h hbb (cellOk_no (Or.inl hh))
            · exact okW_no h hbb (cellOk_no (Or.inr (Or.inl hh)))
            · exact okW_no h hbb (cellOk_no (Or.inr (Or.inr (Or.inl hh))))
            · exact okW_no h h (cellOk_no (Or.inr (Or.inr (Or.inr ⟨rfl, hh⟩))))
          have HZ : Hid (∀ X Y Z, xs.getD (k * 3 + b) 0 = X → xs.getD (b * 3 + k) 0 = Y → xs.getD (k * 3 + k) 0 = Z → ¬ X < 0 → ¬ 1000 < X → X = Y → Z = 0 → cellOk xs k b = true) := by
            intro X Y Z hX hY hZ h1 h2 h3 h4
            subst hX hY
            exact cellOk_mk h1 h2 h3 fun e => by subst e; exact hZ.trans h4
          generalize xs.getD (k * 3 + b) 0 = X at *
          generalize xs.getD (b * 3 + k) 0 = Y at *
          generalize xs.getD (k * 3 + k) 0 = Z at *
          by_cases h1 : X < 0
          · have HN : Hid (okW xs = false) := HY.out X Y Z rfl rfl rfl (Or.inl h1)
            have h1b : decide (X < 0) = true := decide_eq_true h1
            clear HY HZ HU h1
            go_wp2_with fail
            go_quiet (fail)
            go_wp2_with fail
            go_ret
            exact ⟨by rw [HN.out]; rfl, by first | exact below_drewN hb0 nq | (rw [hg]; exact below_drewN hb0 nq)⟩
          have h1b : decide (X < 0) = false := decide_eq_false h1
          by_cases h2 : 1000 < X
          · have HN : Hid (okW xs = false) := HY.out X Y Z rfl rfl rfl (Or.inr (Or.inl h2))
            have h2b : decide (1000 < X) = true := decide_eq_true h2
            clear HY HZ HU h1 h2
            go_wp2_with fail
            go_quiet (fail)
            go_wp2_with fail
            go_ret
            exact ⟨by rw [HN.out]; rfl, by first | exact below_drewN hb0 nq | (rw [hg]; exact below_drewN hb0 nq)⟩
          have h2b : decide (1000 < X) = false := decide_eq_false h2
          by_cases h3 : X = Y
          · have h3b : (X != Y) = false := by simp [h3]
            by_cases h4 : Z = 0
            · have h4b : (Z != 0) = false := by simp [h4]
              have HN : Hid (okUp xs k (b + 1)) := HU.out.one (HZ.out X Y Z rfl rfl rfl h1 h2 h3 h4)
              clear HY HZ HU h1 h2 h3 h4
              go_wp2_with fail
              go_quiet (fail)
              go_wp2_with fail
              go_roundw
              case rel => exact ⟨b + 1, by omega, by go_num, below_drewN hb0 nq, hA0.drewN nq, HN⟩
              case measure => simp [intOf]; omega
            · have h4b : (Z != 0) = true := by simp [h4]
              have HN : Hid (okW xs = false) := HY.out X Y Z rfl rfl rfl (Or.inr (Or.inr (Or.inr h4)))
              clear HY HZ HU h1 h2 h3 h4
              go_wp2_with fail
              go_quiet (fail)
              go_wp2_with fail
              go_ret
              exact ⟨by rw [HN.out]; rfl, by first | exact below_drewN hb0 nq | (rw [hg]; exact below_drewN hb0 nq)⟩
          · have h3b : (X != Y) = true := by simp [h3]
            have HN : Hid (okW xs = false) := HY.out X Y Z rfl rfl rfl (Or.inr (Or.inr (Or.inl h3)))
            clear HY HZ HU h1 h2 h3
            go_wp2_with fail
            go_quiet (fail)
            go_wp2_with fail
            go_ret
            exact ⟨by rw [HN.out]; rfl, by first | exact below_drewN hb0 nq | (rw [hg]; exact below_drewN hb0 nq)⟩
        · obtain rfl : b = 3 := by omega
          go_wp2_with fail
          go_roundw
          case rel => exact ⟨k + 1, by omega, by go_num, hb0, hA0, HU.out.row⟩
          case measure => simp [intOf]; omega
    · obtain rfl : k = 3 := by omega
      have HN : Hid (okW xs = true) := HU.out.all
      go_wp2_with fail
      go_ret
      exact ⟨by rw [HN.out]; rfl, by first | exact hb0 | (rw [hg]; exact hb0)⟩

/-- Whether a number is a site. -/
def isSt (n : Int) : Bool := decide (0 ≤ n) && decide (n < 3)

set_option maxRecDepth 20000 in
theorem isSite_any (n : Int) (w : World) : Calls Try.prog 37 #[.int .i64 n] w fun r w' => r = .returned (.bool (isSt n)) ∧ w' = w := by
  unfold isSt
  go_enter Try.func37, Try.ntmps37
  go_wp2
  all_goals go_ret
  all_goals exact ⟨ret_bool (by first | (simp [*]; done) | (simp [*]; omega)), rfl⟩

end Go.Proofs.Ytdjeafaaclhpkaa.M
