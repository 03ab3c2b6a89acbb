/-
  Own text: the walk of the statement 'RouteDirect'.
-/
import Derived.Test.YtdjeafaaclhpkaaZEq
import Derived.Test.YtdjeafaaclhpkaaZAwake
namespace Go.Proofs.Ytdjeafaaclhpkaa.M
open Go.ChangeShapes Go.WideShapes Go.ChangeAt Go.RowKit

theorem dirs_le (x y z : Int) : ∀ i, i < 3 → ∀ j, j < 3 → wv (dirs x y z) i j ≤ wv (wy x y z) i j := by
  intro i hi j hj
  obtain rfl | rfl | rfl : i = 0 ∨ i = 1 ∨ i = 2 := by omega
  all_goals obtain rfl | rfl | rfl : j = 0 ∨ j = 1 ∨ j = 2 := by omega
  all_goals simp [wv, dirs, wy]
  all_goals omega

theorem dirs_tri (x y z : Int) (hx : 0 ≤ x) (hy : 0 ≤ y) (hz : 0 ≤ z) : ∀ i, i < 3 → ∀ j, j < 3 → ∀ k, k < 3 → wv (dirs x y z) i j ≤ wv (dirs x y z) i k + wv (dirs x y z) k j := by
  intro i hi j hj k hk
  obtain rfl | rfl | rfl : i = 0 ∨ i = 1 ∨ i = 2 := by omega
  all_goals obtain rfl | rfl | rfl : j = 0 ∨ j = 1 ∨ j = 2 := by omega
  all_goals obtain rfl | rfl | rfl : k = 0 ∨ k = 1 ∨ k = 2 := by omega
  all_goals simp [wv, dirs, wy]
  all_goals omega

theorem Direct_good (a0 a1 a2 a3 a4 a5 a6 a7 a8 : Int) (h : okW [a0, a1, a2, a3, a4, a5, a6, a7, a8] = true) : ∃ d0 d1 d2 d3 d4 d5 d6 d7 d8 : Int, (∀ w : World, Calls Try.prog 9 #[.agg #[.int .i64 a0, .int .i64 a1, .int .i64 a2, .int .i64 a3, .int .i64 a4, .int .i64 a5, .int .i64 a6, .int .i64 a7, .int .i64 a8]] w fun r w' => r = .returned (.tuple #[.agg #[.int .i64 d0, .int .i64 d1, .int .i64 d2, .int .i64 d3, .int .i64 d4, .int .i64 d5, .int .i64 d6, .int .i64 d7, .int .i64 d8], .int .i64 0]) ∧ Below w.heap.size w w') ∧
    okW [d0, d1, d2, d3, d4, d5, d6, d7, d8] = true ∧ inW [d0, d1, d2, d3, d4, d5, d6, d7, d8] ∧ (∀ i, i < 3 → ∀ j, j < 3 → wv [d0, d1, d2, d3, d4, d5, d6, d7, d8] i j ≤ wv [a0, a1, a2, a3, a4, a5, a6, a7, a8] i j) ∧ ∀ i, i < 3 → ∀ j, j < 3 → ∀ k, k < 3 → wv [d0, d1, d2, d3, d4, d5, d6, d7, d8] i j ≤ wv [d0, d1, d2, d3, d4, d5, d6, d7, d8] i k + wv [d0, d1, d2, d3, d4, d5, d6, d7, d8] k j := by
  obtain ⟨x, y, z, hx, hy, hz, e⟩ := okW_shape (xs := [a0, a1, a2, a3, a4, a5, a6, a7, a8]) rfl h
  have h1 : rO 3 [a0, a1, a2, a3, a4, a5, a6, a7, a8] = dirs x y z := by rw [e]; exact rO_wy x y z hx.1 hy.1 hz.1
  refine ⟨_, _, _, _, _, _, _, _, _, fun w => Direct_ok a0 a1 a2 a3 a4 a5 a6 a7 a8 w h _ _ _ _ _ _ _ _ _ h1, okW_wy _ _ _ (by omega) (by omega) (by omega), inW_wy _ _ _ (by omega) (by omega) (by omega), ?_, dirs_tri x y z hx.1 hy.1 hz.1⟩
  rw [e]
  exact dirs_le x y z

set_option maxRecDepth 20000 in
set_option maxHeartbeats 2000000 in
theorem walk_RouteDirect (w : World) (a0 a1 a2 a3 a4 a5 a6 a7 a8 : Int) :
    Calls Try.prog 7 #[.agg #[.int .i64 a0, .int .i64 a1, .int .i64 a2, .int .i64 a3, .int .i64 a4, .int .i64 a5, .int .i64 a6, .int .i64 a7, .int .i64 a8]] w fun r w' => r = .returned (.bool true) ∧ Below w.heap.size w w' := by
  have hb0 : Below w.heap.size w (w.alloc (.cells #[.int .i64 a0, .int .i64 a1, .int .i64 a2, .int .i64 a3, .int .i64 a4, .int .i64 a5, .int .i64 a6, .int .i64 a7, .int .i64 a8] 24)) := (Below.refl _ _).alloc (Nat.le_refl _) _
  have hA : ArrI 24 .i64 (w.alloc (.cells #[.int .i64 a0, .int .i64 a1, .int .i64 a2, .int .i64 a3, .int .i64 a4, .int .i64 a5, .int .i64 a6, .int .i64 a7, .int .i64 a8] 24)) w.heap.size [a0, a1, a2, a3, a4, a5, a6, a7, a8] := nine_cells (t := 24) w a0 a1 a2 a3 a4 a5 a6 a7 a8
  have hW := fun W => awake_any W
  cases h : okW [a0, a1, a2, a3, a4, a5, a6, a7, a8] with
  | false =>
    have g1 := Direct_no a0 a1 a2 a3 a4 a5 a6 a7 a8 (w.alloc (.cells #[.int .i64 a0, .int .i64 a1, .int .i64 a2, .int .i64 a3, .int .i64 a4, .int .i64 a5, .int .i64 a6, .int .i64 a7, .int .i64 a8] 24)) h
    have heq := fun W => eql_nine 0 0 0 0 0 0 0 0 0 W
    clear h hA
    go_enter Try.func7, Try.ntmps7
    go_wp2_with fail
    refine g1.mono ?_
    rintro r w1 ⟨rfl, hb1⟩
    have hbb := hb0.trans (hb1.mono hb0.size)
    have hb2 := hbb.alloc hbb.size (.cells #[.int .i64 0, .int .i64 0, .int .i64 0, .int .i64 0, .int .i64 0, .int .i64 0, .int .i64 0, .int .i64 0, .int .i64 0] 24)
    clear g1 hb0 hb1 hbb
    go_wp2_with fail
    refine (hW _).mono ?_
    rintro r w2 ⟨rfl, hb3⟩
    go_wp2_with fail
    go_ret
    exact ⟨rfl, hb2.trans (hb3.mono hb2.size)⟩
  | true =>
    obtain ⟨d0, d1, d2, d3, d4, d5, d6, d7, d8, h1, hok, hin, hle, htr⟩ := Direct_good a0 a1 a2 a3 a4 a5 a6 a7 a8 h
    have g1 := h1 (w.alloc (.cells #[.int .i64 a0, .int .i64 a1, .int .i64 a2, .int .i64 a3, .int .i64 a4, .int .i64 a5, .int .i64 a6, .int .i64 a7, .int .i64 a8] 24))
    have hin2 : Hid (inW [a0, a1, a2, a3, a4, a5, a6, a7, a8]) := by
      obtain ⟨x, y, z, hx, hy, hz, e⟩ := okW_shape (xs := [a0, a1, a2, a3, a4, a5, a6, a7, a8]) rfl h
      unfold Hid
      rw [e]
      exact inW_wy x y z hx hy hz
    have HL : Hid ([a0, a1, a2, a3, a4, a5, a6, a7, a8].length = 9) := rfl
    have HLD : Hid ([d0, d1, d2, d3, d4, d5, d6, d7, d8].length = 9) := rfl
    have HLE : Hid (∀ i, i < 3 → ∀ j, j < 3 → wv [d0, d1, d2, d3, d4, d5, d6, d7, d8] i j ≤ wv [a0, a1, a2, a3, a4, a5, a6, a7, a8] i j) := hle
    have HTR : Hid (∀ i, i < 3 → ∀ j, j < 3 → ∀ k, k < 3 → wv [d0, d1, d2, d3, d4, d5, d6, d7, d8] i j ≤ wv [d0, d1, d2, d3, d4, d5, d6, d7, d8] i k + wv [d0, d1, d2, d3, d4, d5, d6, d7, d8] k j) := htr
    have HIN : Hid (inW [d0, d1, d2, d3, d4, d5, d6, d7, d8]) := hin
    have hC := fun W => Way_any d0 d1 d2 d3 d4 d5 d6 d7 d8 W
    rw [hok] at hC
    unfold wayV at hC
    simp only [if_true] at hC
    clear h hok hin hle htr h1
    generalize [a0, a1, a2, a3, a4, a5, a6, a7, a8] = xs at *
    go_enter Try.func7, Try.ntmps7
    go_wp2_with fail
    refine g1.mono ?_
    rintro r w1 ⟨rfl, hb1⟩
    have hbb := hb0.trans (hb1.mono hb0.size)
    replace hA := (hA.below hb1).alloc (.cells #[.int .i64 d0, .int .i64 d1, .int .i64 d2, .int .i64 d3, .int .i64 d4, .int .i64 d5, .int .i64 d6, .int .i64 d7, .int .i64 d8] 24)
    have hD : ArrI 24 .i64 (w1.alloc (.cells #[.int .i64 d0, .int .i64 d1, .int .i64 d2, .int .i64 d3, .int .i64 d4, .int .i64 d5, .int .i64 d6, .int .i64 d7, .int .i64 d8] 24)) w1.heap.size [d0, d1, d2, d3, d4, d5, d6, d7, d8] := nine_cells (t := 24) w1 d0 d1 d2 d3 d4 d5 d6 d7 d8
    have hb2 := hbb.alloc hbb.size (.cells #[.int .i64 d0, .int .i64 d1, .int .i64 d2, .int .i64 d3, .int .i64 d4, .int .i64 d5, .int .i64 d6, .int .i64 d7, .int .i64 d8] 24)
    clear g1 hb0 hb1 hbb
    go_wp2_with fail
    refine (hC _).mono ?_
    rintro r w2 ⟨rfl, hb3⟩
    have hb4 := hb2.trans (hb3.mono hb2.size)
    replace hA := hA.below hb3
    replace hD := hD.below hb3
    clear hb2 hb3 hC
    generalize [d0, d1, d2, d3, d4, d5, d6, d7, d8] = ds at *
    go_wp2_with fail
    generalize hgd : w1.heap.size = gd at *
    generalize hg : w.heap.size = g at *
    go_loopw [24] (fun i wr => ∃ a : Nat, a ≤ 3 ∧ i = .int .i64 a ∧ ArrI 24 .i64 wr g xs ∧ ArrI 24 .i64 wr gd ds ∧ Below g w wr) (fun i _ => 3 - (intOf i).toNat)
    case atStart => exact ⟨0, by decide, rfl, hA, hD, hb4⟩
    case round =>
      clear hA hD hb4
      obtain ⟨a, ha, rfl, hA, hD, hb⟩ := hrel
      by_cases haa : a < 3
      · have hai : (a : Int) < 3 := by omega
        go_wp2_with fail
        obtain ⟨w5, hw5⟩ : ∃ x, x = wr := ⟨wr, rfl⟩
        go_loopw [27] (fun i wr => ∃ b : Nat, b ≤ 3 ∧ i = .int .i64 b ∧ ArrI 24 .i64 wr g xs ∧ ArrI 24 .i64 wr gd ds ∧ Below g w wr) (fun i _ => 3 - (intOf i).toNat)
        case atStart => exact ⟨0, by decide, rfl, hA, hD, hb⟩
        case round =>
          clear hA hD hb hw5
          obtain ⟨b, hbq, rfl, hA, hD, hb⟩ := hrel
          by_cases hbb : b < 3
          · have hbi : (b : Int) < 3 := by omega
            go_wp2_with fail
            obtain ⟨w6, hw6⟩ : ∃ x, x = wr := ⟨wr, rfl⟩
            go_loopw [30] (fun i wr => ∃ k : Nat, k ≤ 3 ∧ i = .int .i64 k ∧ ArrI 24 .i64 wr g xs ∧ ArrI 24 .i64 wr gd ds ∧ Below g w wr) (fun i _ => 3 - (intOf i).toNat)
            case atStart => exact ⟨0, by decide, rfl, hA, hD, hb⟩
            case round =>
              clear hA hD hb hw6
              obtain ⟨k, hk, rfl, hA, hD, hb⟩ := hrel
              by_cases hkk : k < 3
              · have hki : (k : Int) < 3 := by omega
                have x1 := hD.cell (i := a * 3 + b) (by rw [HLD.out]; omega)
                have x2 := hA.cell (i := a * 3 + b) (by rw [HL.out]; omega)
                have x3 := hD.cell (i := a * 3 + k) (by rw [HLD.out]; omega)
                have x4 := hD.cell (i := k * 3 + b) (by rw [HLD.out]; omega)
                change _ = some (Value.int .i64 (wv ds a b)) at x1
                change _ = some (Value.int .i64 (wv xs a b)) at x2
                change _ = some (Value.int .i64 (wv ds a k)) at x3
                change _ = some (Value.int .i64 (wv ds k b)) at x4
                have v1 := HIN.out.at a k
                have v2 := HIN.out.at k b
                have l1 := HLE.out a haa b hbb
                have l2 := HTR.out a haa b hbb k hkk
                have hwr : IntKind.i64.wrap (wv ds a k + wv ds k b) = wv ds a k + wv ds k b := by rw [IntKind.wrap_i64]; omega
                have t1 : decide (wv xs a b < wv ds a b) = false := decide_eq_false (by omega)
                have t2 : decide (wv ds a k + wv ds k b < wv ds a b) = false := decide_eq_false (by omega)
                generalize wv ds a b = X at *
                generalize wv xs a b = Y at *
                generalize wv ds a k = Z at *
                generalize wv ds k b = U at *
                clear l1 l2 v1 v2
                go_wp2_with fail
                go_quiet (fail)
                go_wp2_with fail
                go_roundw
                case rel => exact ⟨k + 1, by omega, by go_num, hA.drewN nq, hD.drewN nq, below_drewN hb nq⟩
                case measure => simp [intOf]; omega
              · obtain rfl : k = 3 := by omega
                go_wp2_with fail
                go_roundw
                case rel => exact ⟨b + 1, by omega, by go_num, hA, hD, hb⟩
                case measure => simp [intOf]; omega
          · obtain rfl : b = 3 := by omega
            go_wp2_with fail
            go_roundw
            case rel => exact ⟨a + 1, by omega, by go_num, hA, hD, hb⟩
            case measure => simp [intOf]; omega
      · obtain rfl : a = 3 := by omega
        go_wp2_with fail
        refine (hW _).mono ?_
        rintro r w7 ⟨rfl, hb7⟩
        have hb8 := hb.trans (hb7.mono (by rw [← hg]; exact hb.size))
        go_wp2_with fail
        go_ret
        exact ⟨rfl, by first | exact hb8 | (rw [hg]; exact hb8)⟩

end Go.Proofs.Ytdjeafaaclhpkaa.M
