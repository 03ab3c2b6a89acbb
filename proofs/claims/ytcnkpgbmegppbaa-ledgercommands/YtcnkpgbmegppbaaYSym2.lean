/-
  Own text: what a stable sort of many members calls: the merge of two long runs. Only that it comes back, and that the row holds as many members.
-/
import Derived.Test.YtcnkpgbmegppbaaYSym
namespace Go.Proofs.Ytcnkpgbmegppbaa.M
open Go.ChangeShapes Go.WideShapes Go.ChangeAt Go.RowKit

set_option maxRecDepth 20000 in
set_option maxHeartbeats 4000000 in
theorem merge_rest (g N n : Nat) (hn : n ≤ 1099511627776) (s : Nat) (w : World) (L : List Mb) (a m b : Nat) (hs : b - a ≤ s + 1) (hR : Row w g N L) (hL : L.length = n) (hma : ¬ m = a + 1) (ham : a < m) (hbm : ¬ b = m + 1) (hmb : m < b) (hbn : b ≤ n)
    (IH : ∀ (w : World) (L : List Mb) (a m b : Nat), b - a ≤ s → Row w g N L → L.length = n → a < m → m < b → b ≤ n →
      Calls Try.prog 85 #[.slice (some ⟨g, 0, none⟩) n N, .int .i64 a, .int .i64 m, .int .i64 b, .func (.func 66) #[] #[]] w fun e w' => e = .returned (.tuple #[]) ∧ ∃ M, M.length = n ∧ Row w' g N M ∧ Ex g w w') :
    Calls Try.prog 85 #[.slice (some ⟨g, 0, none⟩) n N, .int .i64 a, .int .i64 m, .int .i64 b, .func (.func 66) #[] #[]] w fun e w' => e = .returned (.tuple #[]) ∧ ∃ M, M.length = n ∧ Row w' g N M ∧ Ex g w w' := by
  have hNl := hR.le
  go_enter Try.func85, Try.ntmps85
  have v1 : IntKind.i64.wrap ((m : Int) - (a : Int)) = (m : Int) - (a : Int) := by rw [IntKind.wrap_i64]; omega
  have v3 : ((m : Int) - (a : Int) == 1) = false := by simp; omega
  have v2 : IntKind.i64.wrap ((b : Int) - (m : Int)) = (b : Int) - (m : Int) := by rw [IntKind.wrap_i64]; omega
  have v4 : ((b : Int) - (m : Int) == 1) = false := by simp; omega
  obtain ⟨d, hd⟩ : ∃ d : Nat, ((a : Int) + (b : Int)) / 2 = (d : Int) := ⟨(a + b) / 2, by omega⟩
  have hd1 : a + b ≤ 2 * d + 1 := by omega
  have hd2 : 2 * d ≤ a + b := by omega
  obtain ⟨P, hP⟩ : ∃ P : Nat, (d : Int) + (m : Int) - 1 = (P : Int) := ⟨d + m - 1, by omega⟩
  have hP1 : P + 1 = d + m := by omega
  by_cases hmd : d < m
  · have hmi : (d : Int) < (m : Int) := by omega
    obtain ⟨s0, hs0⟩ : ∃ s0 : Nat, (d : Int) + (m : Int) - (b : Int) = (s0 : Int) := ⟨d + m - b, by omega⟩
    have hs1 : s0 + b = d + m := by omega
    go_wp2_with fail
    clear hd hs0 hP
    go_loopw [20, 21, 23] (fun x y _ wr => ∃ (i j : Nat), s0 ≤ i ∧ i ≤ j ∧ j ≤ d ∧ x = .int .i64 i ∧ y = .int .i64 j ∧ Row wr g N L ∧ Ex g w wr) (fun x y _ _ => (intOf y).toNat - (intOf x).toNat)
    case atStart => exact ⟨s0, d, by omega, by omega, by omega, by first | rfl | go_num | (congr 1; omega), by first | rfl | go_num | (congr 1; omega), hR, Ex.refl _ _⟩
    case round =>
      clear hR
      obtain ⟨i, j, hi, hij, hj, rfl, rfl, hR, hb⟩ := hrel
      by_cases h : i < j
      · have hlt : (i : Int) < (j : Int) := by omega
        obtain ⟨k, hk⟩ : ∃ k : Nat, ((i : Int) + (j : Int)) / 2 = (k : Int) := ⟨(i + j) / 2, by omega⟩
        have hki : i ≤ k := by omega
        have hkj : k < j := by omega
        go_wp2_with fail
        try simp only [hk]
        clear hk
        obtain ⟨Z, hZ⟩ : ∃ Z : Nat, Z + k = P := ⟨P - k, by omega⟩
        have j4 : IntKind.i64.wrap ((P : Int) - (k : Int)) = (P : Int) - (k : Int) := by rw [IntKind.wrap_i64]; omega
        obtain ⟨x1, x2, x3⟩ := hR.at (i := Z) (by omega)
        obtain ⟨y1, y2, y3⟩ := hR.at (i := k) (by omega)
        have hC := fun W => bySite_any (L.getD (Z) .z0) (L.getD (k) .z0) W
        generalize L.getD (Z) .z0 = X at *
        generalize L.getD (k) .z0 = Y at *
        obtain ⟨Xn, Xs, Xf⟩ := X
        obtain ⟨Yn, Ys, Yf⟩ := Y
        dsimp only at x1 x2 x3 y1 y2 y3 hC
        have k1 := cell_regrown x1
        have k2 := cell_regrown x2
        have k3 := cell_regrown x3
        have l1 := cell_regrown y1
        have l2 := cell_regrown y2
        have l3 := cell_regrown y3
        have i1 : (k : Int) < (n : Int) := by omega
        have i2 : (a : Int) < (n : Int) := by omega
        have i3 : (m : Int) < (n : Int) := by omega
        have j1 : (P : Int) - (k : Int) < (n : Int) := by omega
        have j2 : (0 : Int) ≤ (P : Int) - (k : Int) := by omega
        have j3 : ((P : Int) - (k : Int)).toNat = Z := by omega
        have j6 : (k : Int) ≤ (P : Int) := by omega
        have j7 : P - k = Z := by omega
        have j8 : (P : Int) < (n : Int) + (k : Int) := by omega
        have cC : ∀ d os, Calls Try.prog 66 #[.agg #[.int .i64 Xn, .int .i64 Xs, .bool Xf], .agg #[.int .i64 Yn, .int .i64 Ys, .bool Yf]] (Sort.grow (redrawn wr d) os) fun e w'' => e = .returned (.int .i64 (cmpI Xs Ys)) ∧ ∃ p : Regrown, w'' = Sort.grow (redrawn wr p.d) p.os := fun d os => Calls.regrown_of (hC _)
        generalize cmpI Xs Ys = z at *
        clear hC
        refine wp_region_quiet_below (by kernel_rfl) (by kernel_rfl) ?_
        repeat (quiet_step (first | exact cC _ _))
        refine wpQuiet_nil ?_
        intro _ hw'
        obtain ⟨⟨dq, osq⟩, hw''⟩ := hw'
        subst hw''
        have hbq := below_regrown wr dq osq
        have hR2 := hR.up hbq
        have hb2 := hb.trans (Ex.of_below (g := g) hbq)
        clear k1 k2 k3 l1 l2 l3 x1 x2 x3 y1 y2 y3 cC hbq hR hb
        generalize Sort.grow (redrawn wr dq) osq = W2 at *
        by_cases hz : z < 0
        · have hzd : decide (z < 0) = true := decide_eq_true hz
          try simp only [hzd]
          try simp only [Bool.not_true]
          clear hzd hz
          go_wp2_with fail
          go_roundw
          case rel => exact ⟨i, k, by omega, by omega, by omega, by first | rfl | go_num | (congr 1; omega), by first | rfl | go_num | (congr 1; omega), hR2, hb2⟩
          case measure => simp [intOf] <;> omega
        · have hzd : decide (z < 0) = false := decide_eq_false hz
          try simp only [hzd]
          try simp only [Bool.not_false]
          clear hzd hz
          go_wp2_with fail
          go_roundw
          case rel => exact ⟨k + 1, j, by omega, by omega, by omega, by first | rfl | go_num | (congr 1; omega), by first | rfl | go_num | (congr 1; omega), hR2, hb2⟩
          case measure => simp [intOf] <;> omega
      · have hge : ¬ (i : Int) < (j : Int) := by omega
        obtain ⟨W1, hW1⟩ : ∃ x, x = wr := ⟨wr, rfl⟩
        rw [← hW1] at hR hb ⊢
        clear hW1
        obtain ⟨E, hE⟩ : ∃ E : Nat, (d : Int) + (m : Int) - (i : Int) = (E : Int) := ⟨d + m - i, by omega⟩
        have hEn : E + i = d + m := by omega
        have wE : IntKind.i64.wrap (d + m - i : Int) = (E : Int) := by rw [IntKind.wrap_i64]; omega
        by_cases c1 : i < m
        · have g1 : (i : Int) < (m : Int) := by omega
          by_cases c2 : m < E
          · have g2 : (m : Int) < (E : Int) := by omega
            have hI := rotate_any W1 g N L i m E hR (by omega) (by omega) (by omega) (by omega)
            rw [hL] at hI
            go_wp2_with fail
            refine hI.mono ?_
            rintro r W7 ⟨rfl, M7, hM7, hR7, hb7⟩
            have hB7 := Ex.trans hb hb7
            by_cases c1 : a < i
            · have g1 : (a : Int) < (i : Int) := by omega
              by_cases c2 : i < d
              · have g2 : (i : Int) < (d : Int) := by omega
                have hI := IH W7 M7 a i d (by omega) hR7 hM7 (by omega) (by omega) (by omega)
                go_wp2_with fail
                refine hI.mono ?_
                rintro r W8 ⟨rfl, M8, hM8, hR8, hb8⟩
                have hB8 := Ex.trans hB7 hb8
                by_cases c1s : d < E
                · have g1s : (d : Int) < (E : Int) := by omega
                  by_cases c2s : E < b
                  · have g2s : (E : Int) < (b : Int) := by omega
                    have hI := IH W8 M8 d E b (by omega) hR8 hM8 (by omega) (by omega) (by omega)
                    go_wp2_with fail
                    refine hI.mono ?_
                    rintro r W9 ⟨rfl, M9, hM9, hR9, hb9⟩
                    go_wp2_with fail
                    go_end0
                    exact ⟨rfl, M9, hM9, hR9, Ex.trans hB8 hb9⟩
                  · have g2s : ¬ (E : Int) < (b : Int) := by omega
                    go_wp2_with fail
                    go_end0
                    exact ⟨rfl, M8, hM8, hR8, hB8⟩
                · have g1s : ¬ (d : Int) < (E : Int) := by omega
                  go_wp2_with fail
                  go_end0
                  exact ⟨rfl, M8, hM8, hR8, hB8⟩
              · have g2 : ¬ (i : Int) < (d : Int) := by omega
                by_cases c1s : d < E
                · have g1s : (d : Int) < (E : Int) := by omega
                  by_cases c2s : E < b
                  · have g2s : (E : Int) < (b : Int) := by omega
                    have hI := IH W7 M7 d E b (by omega) hR7 hM7 (by omega) (by omega) (by omega)
                    go_wp2_with fail
                    refine hI.mono ?_
                    rintro r W9 ⟨rfl, M9, hM9, hR9, hb9⟩
                    go_wp2_with fail
                    go_end0
                    exact ⟨rfl, M9, hM9, hR9, Ex.trans hB7 hb9⟩
                  · have g2s : ¬ (E : Int) < (b : Int) := by omega
                    go_wp2_with fail
                    go_end0
                    exact ⟨rfl, M7, hM7, hR7, hB7⟩
                · have g1s : ¬ (d : Int) < (E : Int) := by omega
                  go_wp2_with fail
                  go_end0
                  exact ⟨rfl, M7, hM7, hR7, hB7⟩
            · have g1 : ¬ (a : Int) < (i : Int) := by omega
              by_cases c1s : d < E
              · have g1s : (d : Int) < (E : Int) := by omega
                by_cases c2s : E < b
                · have g2s : (E : Int) < (b : Int) := by omega
                  have hI := IH W7 M7 d E b (by omega) hR7 hM7 (by omega) (by omega) (by omega)
                  go_wp2_with fail
                  refine hI.mono ?_
                  rintro r W9 ⟨rfl, M9, hM9, hR9, hb9⟩
                  go_wp2_with fail
                  go_end0
                  exact ⟨rfl, M9, hM9, hR9, Ex.trans hB7 hb9⟩
                · have g2s : ¬ (E : Int) < (b : Int) := by omega
                  go_wp2_with fail
                  go_end0
                  exact ⟨rfl, M7, hM7, hR7, hB7⟩
              · have g1s : ¬ (d : Int) < (E : Int) := by omega
                go_wp2_with fail
                go_end0
                exact ⟨rfl, M7, hM7, hR7, hB7⟩
          · have g2 : ¬ (m : Int) < (E : Int) := by omega
            by_cases c1 : a < i
            · have g1 : (a : Int) < (i : Int) := by omega
              by_cases c2 : i < d
              · have g2 : (i : Int) < (d : Int) := by omega
                have hI := IH W1 L a i d (by omega) hR hL (by omega) (by omega) (by omega)
                go_wp2_with fail
                refine hI.mono ?_
                rintro r W8 ⟨rfl, M8, hM8, hR8, hb8⟩
                have hB8 := Ex.trans hb hb8
                by_cases c1s : d < E
                · have g1s : (d : Int) < (E : Int) := by omega
                  by_cases c2s : E < b
                  · have g2s : (E : Int) < (b : Int) := by omega
                    have hI := IH W8 M8 d E b (by omega) hR8 hM8 (by omega) (by omega) (by omega)
                    go_wp2_with fail
                    refine hI.mono ?_
                    rintro r W9 ⟨rfl, M9, hM9, hR9, hb9⟩
                    go_wp2_with fail
                    go_end0
                    exact ⟨rfl, M9, hM9, hR9, Ex.trans hB8 hb9⟩
                  · have g2s : ¬ (E : Int) < (b : Int) := by omega
                    go_wp2_with fail
                    go_end0
                    exact ⟨rfl, M8, hM8, hR8, hB8⟩
                · have g1s : ¬ (d : Int) < (E : Int) := by omega
                  go_wp2_with fail
                  go_end0
                  exact ⟨rfl, M8, hM8, hR8, hB8⟩
              · have g2 : ¬ (i : Int) < (d : Int) := by omega
                by_cases c1s : d < E
                · have g1s : (d : Int) < (E : Int) := by omega
                  by_cases c2s : E < b
                  · have g2s : (E : Int) < (b : Int) := by omega
                    have hI := IH W1 L d E b (by omega) hR hL (by omega) (by omega) (by omega)
                    go_wp2_with fail
                    refine hI.mono ?_
                    rintro r W9 ⟨rfl, M9, hM9, hR9, hb9⟩
                    go_wp2_with fail
                    go_end0
                    exact ⟨rfl, M9, hM9, hR9, Ex.trans hb hb9⟩
                  · have g2s : ¬ (E : Int) < (b : Int) := by omega
                    go_wp2_with fail
                    go_end0
                    exact ⟨rfl, L, hL, hR, hb⟩
                · have g1s : ¬ (d : Int) < (E : Int) := by omega
                  go_wp2_with fail
                  go_end0
                  exact ⟨rfl, L, hL, hR, hb⟩
            · have g1 : ¬ (a : Int) < (i : Int) := by omega
              by_cases c1s : d < E
              · have g1s : (d : Int) < (E : Int) := by omega
                by_cases c2s : E < b
                · have g2s : (E : Int) < (b : Int) := by omega
                  have hI := IH W1 L d E b (by omega) hR hL (by omega) (by omega) (by omega)
                  go_wp2_with fail
                  refine hI.mono ?_
                  rintro r W9 ⟨rfl, M9, hM9, hR9, hb9⟩
                  go_wp2_with fail
                  go_end0
                  exact ⟨rfl, M9, hM9, hR9, Ex.trans hb hb9⟩
                · have g2s : ¬ (E : Int) < (b : Int) := by omega
                  go_wp2_with fail
                  go_end0
                  exact ⟨rfl, L, hL, hR, hb⟩
              · have g1s : ¬ (d : Int) < (E : Int) := by omega
                go_wp2_with fail
                go_end0
                exact ⟨rfl, L, hL, hR, hb⟩
        · have g1 : ¬ (i : Int) < (m : Int) := by omega
          by_cases c1 : a < i
          · have g1 : (a : Int) < (i : Int) := by omega
            by_cases c2 : i < d
            · have g2 : (i : Int) < (d : Int) := by omega
              have hI := IH W1 L a i d (by omega) hR hL (by omega) (by omega) (by omega)
              go_wp2_with fail
              refine hI.mono ?_
              rintro r W8 ⟨rfl, M8, hM8, hR8, hb8⟩
              have hB8 := Ex.trans hb hb8
              by_cases c1s : d < E
              · have g1s : (d : Int) < (E : Int) := by omega
                by_cases c2s : E < b
                · have g2s : (E : Int) < (b : Int) := by omega
                  have hI := IH W8 M8 d E b (by omega) hR8 hM8 (by omega) (by omega) (by omega)
                  go_wp2_with fail
                  refine hI.mono ?_
                  rintro r W9 ⟨rfl, M9, hM9, hR9, hb9⟩
                  go_wp2_with fail
                  go_end0
                  exact ⟨rfl, M9, hM9, hR9, Ex.trans hB8 hb9⟩
                · have g2s : ¬ (E : Int) < (b : Int) := by omega
                  go_wp2_with fail
                  go_end0
                  exact ⟨rfl, M8, hM8, hR8, hB8⟩
              · have g1s : ¬ (d : Int) < (E : Int) := by omega
                go_wp2_with fail
                go_end0
                exact ⟨rfl, M8, hM8, hR8, hB8⟩
            · have g2 : ¬ (i : Int) < (d : Int) := by omega
              by_cases c1s : d < E
              · have g1s : (d : Int) < (E : Int) := by omega
                by_cases c2s : E < b
                · have g2s : (E : Int) < (b : Int) := by omega
                  have hI := IH W1 L d E b (by omega) hR hL (by omega) (by omega) (by omega)
                  go_wp2_with fail
                  refine hI.mono ?_
                  rintro r W9 ⟨rfl, M9, hM9, hR9, hb9⟩
                  go_wp2_with fail
                  go_end0
                  exact ⟨rfl, M9, hM9, hR9, Ex.trans hb hb9⟩
                · have g2s : ¬ (E : Int) < (b : Int) := by omega
                  go_wp2_with fail
                  go_end0
                  exact ⟨rfl, L, hL, hR, hb⟩
              · have g1s : ¬ (d : Int) < (E : Int) := by omega
                go_wp2_with fail
                go_end0
                exact ⟨rfl, L, hL, hR, hb⟩
          · have g1 : ¬ (a : Int) < (i : Int) := by omega
            by_cases c1s : d < E
            · have g1s : (d : Int) < (E : Int) := by omega
              by_cases c2s : E < b
              · have g2s : (E : Int) < (b : Int) := by omega
                have hI := IH W1 L d E b (by omega) hR hL (by omega) (by omega) (by omega)
                go_wp2_with fail
                refine hI.mono ?_
                rintro r W9 ⟨rfl, M9, hM9, hR9, hb9⟩
                go_wp2_with fail
                go_end0
                exact ⟨rfl, M9, hM9, hR9, Ex.trans hb hb9⟩
              · have g2s : ¬ (E : Int) < (b : Int) := by omega
                go_wp2_with fail
                go_end0
                exact ⟨rfl, L, hL, hR, hb⟩
            · have g1s : ¬ (d : Int) < (E : Int) := by omega
              go_wp2_with fail
              go_end0
              exact ⟨rfl, L, hL, hR, hb⟩
  · have hmi : ¬ (d : Int) < (m : Int) := by omega
    go_wp2_with fail
    clear hd hP
    go_loopw [20, 21, 23] (fun x y _ wr => ∃ (i j : Nat), a ≤ i ∧ i ≤ j ∧ j ≤ m ∧ x = .int .i64 i ∧ y = .int .i64 j ∧ Row wr g N L ∧ Ex g w wr) (fun x y _ _ => (intOf y).toNat - (intOf x).toNat)
    case atStart => exact ⟨a, m, by omega, by omega, by omega, by first | rfl | go_num | (congr 1; omega), by first | rfl | go_num | (congr 1; omega), hR, Ex.refl _ _⟩
    case round =>
      clear hR
      obtain ⟨i, j, hi, hij, hj, rfl, rfl, hR, hb⟩ := hrel
      by_cases h : i < j
      · have hlt : (i : Int) < (j : Int) := by omega
        obtain ⟨k, hk⟩ : ∃ k : Nat, ((i : Int) + (j : Int)) / 2 = (k : Int) := ⟨(i + j) / 2, by omega⟩
        have hki : i ≤ k := by omega
        have hkj : k < j := by omega
        go_wp2_with fail
        try simp only [hk]
        clear hk
        obtain ⟨Z, hZ⟩ : ∃ Z : Nat, Z + k = P := ⟨P - k, by omega⟩
        have j4 : IntKind.i64.wrap ((P : Int) - (k : Int)) = (P : Int) - (k : Int) := by rw [IntKind.wrap_i64]; omega
        obtain ⟨x1, x2, x3⟩ := hR.at (i := Z) (by omega)
        obtain ⟨y1, y2, y3⟩ := hR.at (i := k) (by omega)
        have hC := fun W => bySite_any (L.getD (Z) .z0) (L.getD (k) .z0) W
        generalize L.getD (Z) .z0 = X at *
        generalize L.getD (k) .z0 = Y at *
        obtain ⟨Xn, Xs, Xf⟩ := X
        obtain ⟨Yn, Ys, Yf⟩ := Y
        dsimp only at x1 x2 x3 y1 y2 y3 hC
        have k1 := cell_regrown x1
        have k2 := cell_regrown x2
        have k3 := cell_regrown x3
        have l1 := cell_regrown y1
        have l2 := cell_regrown y2
        have l3 := cell_regrown y3
        have i1 : (k : Int) < (n : Int) := by omega
        have i2 : (a : Int) < (n : Int) := by omega
        have i3 : (m : Int) < (n : Int) := by omega
        have j1 : (P : Int) - (k : Int) < (n : Int) := by omega
        have j2 : (0 : Int) ≤ (P : Int) - (k : Int) := by omega
        have j3 : ((P : Int) - (k : Int)).toNat = Z := by omega
        have j6 : (k : Int) ≤ (P : Int) := by omega
        have j7 : P - k = Z := by omega
        have j8 : (P : Int) < (n : Int) + (k : Int) := by omega
        have cC : ∀ d os, Calls Try.prog 66 #[.agg #[.int .i64 Xn, .int .i64 Xs, .bool Xf], .agg #[.int .i64 Yn, .int .i64 Ys, .bool Yf]] (Sort.grow (redrawn wr d) os) fun e w'' => e = .returned (.int .i64 (cmpI Xs Ys)) ∧ ∃ p : Regrown, w'' = Sort.grow (redrawn wr p.d) p.os := fun d os => Calls.regrown_of (hC _)
        generalize cmpI Xs Ys = z at *
        clear hC
        refine wp_region_quiet_below (by kernel_rfl) (by kernel_rfl) ?_
        repeat (quiet_step (first | exact cC _ _))
        refine wpQuiet_nil ?_
        intro _ hw'
        obtain ⟨⟨dq, osq⟩, hw''⟩ := hw'
        subst hw''
        have hbq := below_regrown wr dq osq
        have hR2 := hR.up hbq
        have hb2 := hb.trans (Ex.of_below (g := g) hbq)
        clear k1 k2 k3 l1 l2 l3 x1 x2 x3 y1 y2 y3 cC hbq hR hb
        generalize Sort.grow (redrawn wr dq) osq = W2 at *
        by_cases hz : z < 0
        · have hzd : decide (z < 0) = true := decide_eq_true hz
          try simp only [hzd]
          try simp only [Bool.not_true]
          clear hzd hz
          go_wp2_with fail
          go_roundw
          case rel => exact ⟨i, k, by omega, by omega, by omega, by first | rfl | go_num | (congr 1; omega), by first | rfl | go_num | (congr 1; omega), hR2, hb2⟩
          case measure => simp [intOf] <;> omega
        · have hzd : decide (z < 0) = false := decide_eq_false hz
          try simp only [hzd]
          try simp only [Bool.not_false]
          clear hzd hz
          go_wp2_with fail
          go_roundw
          case rel => exact ⟨k + 1, j, by omega, by omega, by omega, by first | rfl | go_num | (congr 1; omega), by first | rfl | go_num | (congr 1; omega), hR2, hb2⟩
          case measure => simp [intOf] <;> omega
      · have hge : ¬ (i : Int) < (j : Int) := by omega
        obtain ⟨W1, hW1⟩ : ∃ x, x = wr := ⟨wr, rfl⟩
        rw [← hW1] at hR hb ⊢
        clear hW1
        obtain ⟨E, hE⟩ : ∃ E : Nat, (d : Int) + (m : Int) - (i : Int) = (E : Int) := ⟨d + m - i, by omega⟩
        have hEn : E + i = d + m := by omega
        have wE : IntKind.i64.wrap (d + m - i : Int) = (E : Int) := by rw [IntKind.wrap_i64]; omega
        by_cases c1 : i < m
        · have g1 : (i : Int) < (m : Int) := by omega
          by_cases c2 : m < E
          · have g2 : (m : Int) < (E : Int) := by omega
            have hI := rotate_any W1 g N L i m E hR (by omega) (by omega) (by omega) (by omega)
            rw [hL] at hI
            go_wp2_with fail
            refine hI.mono ?_
            rintro r W7 ⟨rfl, M7, hM7, hR7, hb7⟩
            have hB7 := Ex.trans hb hb7
            by_cases c1 : a < i
            · have g1 : (a : Int) < (i : Int) := by omega
              by_cases c2 : i < d
              · have g2 : (i : Int) < (d : Int) := by omega
                have hI := IH W7 M7 a i d (by omega) hR7 hM7 (by omega) (by omega) (by omega)
                go_wp2_with fail
                refine hI.mono ?_
                rintro r W8 ⟨rfl, M8, hM8, hR8, hb8⟩
                have hB8 := Ex.trans hB7 hb8
                by_cases c1s : d < E
                · have g1s : (d : Int) < (E : Int) := by omega
                  by_cases c2s : E < b
                  · have g2s : (E : Int) < (b : Int) := by omega
                    have hI := IH W8 M8 d E b (by omega) hR8 hM8 (by omega) (by omega) (by omega)
                    go_wp2_with fail
                    refine hI.mono ?_
                    rintro r W9 ⟨rfl, M9, hM9, hR9, hb9⟩
                    go_wp2_with fail
                    go_end0
                    exact ⟨rfl, M9, hM9, hR9, Ex.trans hB8 hb9⟩
                  · have g2s : ¬ (E : Int) < (b : Int) := by omega
                    go_wp2_with fail
                    go_end0
                    exact ⟨rfl, M8, hM8, hR8, hB8⟩
                · have g1s : ¬ (d : Int) < (E : Int) := by omega
                  go_wp2_with fail
                  go_end0
                  exact ⟨rfl, M8, hM8, hR8, hB8⟩
              · have g2 : ¬ (i : Int) < (d : Int) := by omega
                by_cases c1s : d < E
                · have g1s : (d : Int) < (E : Int) := by omega
                  by_cases c2s : E < b
                  · have g2s : (E : Int) < (b : Int) := by omega
                    have hI := IH W7 M7 d E b (by omega) hR7 hM7 (by omega) (by omega) (by omega)
                    go_wp2_with fail
                    refine hI.mono ?_
                    rintro r W9 ⟨rfl, M9, hM9, hR9, hb9⟩
                    go_wp2_with fail
                    go_end0
                    exact ⟨rfl, M9, hM9, hR9, Ex.trans hB7 hb9⟩
                  · have g2s : ¬ (E : Int) < (b : Int) := by omega
                    go_wp2_with fail
                    go_end0
                    exact ⟨rfl, M7, hM7, hR7, hB7⟩
                · have g1s : ¬ (d : Int) < (E : Int) := by omega
                  go_wp2_with fail
                  go_end0
                  exact ⟨rfl, M7, hM7, hR7, hB7⟩
            · have g1 : ¬ (a : Int) < (i : Int) := by omega
              by_cases c1s : d < E
              · have g1s : (d : Int) < (E : Int) := by omega
                by_cases c2s : E < b
                · have g2s : (E : Int) < (b : Int) := by omega
                  have hI := IH W7 M7 d E b (by omega) hR7 hM7 (by omega) (by omega) (by omega)
                  go_wp2_with fail
                  refine hI.mono ?_
                  rintro r W9 ⟨rfl, M9, hM9, hR9, hb9⟩
                  go_wp2_with fail
                  go_end0
                  exact ⟨rfl, M9, hM9, hR9, Ex.trans hB7 hb9⟩
                · have g2s : ¬ (E : Int) < (b : Int) := by omega
                  go_wp2_with fail
                  go_end0
                  exact ⟨rfl, M7, hM7, hR7, hB7⟩
              · have g1s : ¬ (d : Int) < (E : Int) := by omega
                go_wp2_with fail
                go_end0
                exact ⟨rfl, M7, hM7, hR7, hB7⟩
          · have g2 : ¬ (m : Int) < (E : Int) := by omega
            by_cases c1 : a < i
            · have g1 : (a : Int) < (i : Int) := by omega
              by_cases c2 : i < d
              · have g2 : (i : Int) < (d : Int) := by omega
                have hI := IH W1 L a i d (by omega) hR hL (by omega) (by omega) (by omega)
                go_wp2_with fail
                refine hI.mono ?_
                rintro r W8 ⟨rfl, M8, hM8, hR8, hb8⟩
                have hB8 := Ex.trans hb hb8
                by_cases c1s : d < E
                · have g1s : (d : Int) < (E : Int) := by omega
                  by_cases c2s : E < b
                  · have g2s : (E : Int) < (b : Int) := by omega
                    have hI := IH W8 M8 d E b (by omega) hR8 hM8 (by omega) (by omega) (by omega)
                    go_wp2_with fail
                    refine hI.mono ?_
                    rintro r W9 ⟨rfl, M9, hM9, hR9, hb9⟩
                    go_wp2_with fail
                    go_end0
                    exact ⟨rfl, M9, hM9, hR9, Ex.trans hB8 hb9⟩
                  · have g2s : ¬ (E : Int) < (b : Int) := by omega
                    go_wp2_with fail
                    go_end0
                    exact ⟨rfl, M8, hM8, hR8, hB8⟩
                · have g1s : ¬ (d : Int) < (E : Int) := by omega
                  go_wp2_with fail
                  go_end0
                  exact ⟨rfl, M8, hM8, hR8, hB8⟩
              · have g2 : ¬ (i : Int) < (d : Int) := by omega
                by_cases c1s : d < E
                · have g1s : (d : Int) < (E : Int) := by omega
                  by_cases c2s : E < b
                  · have g2s : (E : Int) < (b : Int) := by omega
                    have hI := IH W1 L d E b (by omega) hR hL (by omega) (by omega) (by omega)
                    go_wp2_with fail
                    refine hI.mono ?_
                    rintro r W9 ⟨rfl, M9, hM9, hR9, hb9⟩
                    go_wp2_with fail
                    go_end0
                    exact ⟨rfl, M9, hM9, hR9, Ex.trans hb hb9⟩
                  · have g2s : ¬ (E : Int) < (b : Int) := by omega
                    go_wp2_with fail
                    go_end0
                    exact ⟨rfl, L, hL, hR, hb⟩
                · have g1s : ¬ (d : Int) < (E : Int) := by omega
                  go_wp2_with fail
                  go_end0
                  exact ⟨rfl, L, hL, hR, hb⟩
            · have g1 : ¬ (a : Int) < (i : Int) := by omega
              by_cases c1s : d < E
              · have g1s : (d : Int) < (E : Int) := by omega
                by_cases c2s : E < b
                · have g2s : (E : Int) < (b : Int) := by omega
                  have hI := IH W1 L d E b (by omega) hR hL (by omega) (by omega) (by omega)
                  go_wp2_with fail
                  refine hI.mono ?_
                  rintro r W9 ⟨rfl, M9, hM9, hR9, hb9⟩
                  go_wp2_with fail
                  go_end0
                  exact ⟨rfl, M9, hM9, hR9, Ex.trans hb hb9⟩
                · have g2s : ¬ (E : Int) < (b : Int) := by omega
                  go_wp2_with fail
                  go_end0
                  exact ⟨rfl, L, hL, hR, hb⟩
              · have g1s : ¬ (d : Int) < (E : Int) := by omega
                go_wp2_with fail
                go_end0
                exact ⟨rfl, L, hL, hR, hb⟩
        · have g1 : ¬ (i : Int) < (m : Int) := by omega
          by_cases c1 : a < i
          · have g1 : (a : Int) < (i : Int) := by omega
            by_cases c2 : i < d
            · have g2 : (i : Int) < (d : Int) := by omega
              have hI := IH W1 L a i d (by omega) hR hL (by omega) (by omega) (by omega)
              go_wp2_with fail
              refine hI.mono ?_
              rintro r W8 ⟨rfl, M8, hM8, hR8, hb8⟩
              have hB8 := Ex.trans hb hb8
              by_cases c1s : d < E
              · have g1s : (d : Int) < (E : Int) := by omega
                by_cases c2s : E < b
                · have g2s : (E : Int) < (b : Int) := by omega
                  have hI := IH W8 M8 d E b (by omega) hR8 hM8 (by omega) (by omega) (by omega)
                  go_wp2_with fail
                  refine hI.mono ?_
                  rintro r W9 ⟨rfl, M9, hM9, hR9, hb9⟩
                  go_wp2_with fail
                  go_end0
                  exact ⟨rfl, M9, hM9, hR9, Ex.trans hB8 hb9⟩
                · have g2s : ¬ (E : Int) < (b : Int) := by omega
                  go_wp2_with fail
                  go_end0
                  exact ⟨rfl, M8, hM8, hR8, hB8⟩
              · have g1s : ¬ (d : Int) < (E : Int) := by omega
                go_wp2_with fail
                go_end0
                exact ⟨rfl, M8, hM8, hR8, hB8⟩
            · have g2 : ¬ (i : Int) < (d : Int) := by omega
              by_cases c1s : d < E
              · have g1s : (d : Int) < (E : Int) := by omega
                by_cases c2s : E < b
                · have g2s : (E : Int) < (b : Int) := by omega
                  have hI := IH W1 L d E b (by omega) hR hL (by omega) (by omega) (by omega)
                  go_wp2_with fail
                  refine hI.mono ?_
                  rintro r W9 ⟨rfl, M9, hM9, hR9, hb9⟩
                  go_wp2_with fail
                  go_end0
                  exact ⟨rfl, M9, hM9, hR9, Ex.trans hb hb9⟩
                · have g2s : ¬ (E : Int) < (b : Int) := by omega
                  go_wp2_with fail
                  go_end0
                  exact ⟨rfl, L, hL, hR, hb⟩
              · have g1s : ¬ (d : Int) < (E : Int) := by omega
                go_wp2_with fail
                go_end0
                exact ⟨rfl, L, hL, hR, hb⟩
          · have g1 : ¬ (a : Int) < (i : Int) := by omega
            by_cases c1s : d < E
            · have g1s : (d : Int) < (E : Int) := by omega
              by_cases c2s : E < b
              · have g2s : (E : Int) < (b : Int) := by omega
                have hI := IH W1 L d E b (by omega) hR hL (by omega) (by omega) (by omega)
                go_wp2_with fail
                refine hI.mono ?_
                rintro r W9 ⟨rfl, M9, hM9, hR9, hb9⟩
                go_wp2_with fail
                go_end0
                exact ⟨rfl, M9, hM9, hR9, Ex.trans hb hb9⟩
              · have g2s : ¬ (E : Int) < (b : Int) := by omega
                go_wp2_with fail
                go_end0
                exact ⟨rfl, L, hL, hR, hb⟩
            · have g1s : ¬ (d : Int) < (E : Int) := by omega
              go_wp2_with fail
              go_end0
              exact ⟨rfl, L, hL, hR, hb⟩

theorem symMerge_any (g N n : Nat) (hn : n ≤ 1099511627776) : ∀ (s : Nat) (w : World) (L : List Mb) (a m b : Nat), b - a ≤ s → Row w g N L → L.length = n → a < m → m < b → b ≤ n →
    Calls Try.prog 85 #[.slice (some ⟨g, 0, none⟩) n N, .int .i64 a, .int .i64 m, .int .i64 b, .func (.func 66) #[] #[]] w fun e w' => e = .returned (.tuple #[]) ∧ ∃ M, M.length = n ∧ Row w' g N M ∧ Ex g w w'
  | 0, _, _, _, _, _, h, _, _, h1, h2, _ => absurd h (by omega)
  | s + 1, w, L, a, m, b, hs, hR, hL, ham, hmb, hbn => by
    by_cases hma : m = a + 1
    · exact merge_one g N n hn w L a m b hR hL hma hmb hbn
    · by_cases hbm : b = m + 1
      · exact merge_two g N n hn w L a m b hR hL hma ham hbm hbn
      · exact merge_rest g N n hn s w L a m b hs hR hL hma ham hbm hmb hbn (symMerge_any g N n hn s)

end Go.Proofs.Ytcnkpgbmegppbaa.M
