/-
  Own text: what a stable sort of many members calls: the merge. Only that it comes back, and that the row holds as many members.
-/
import Derived.Test.YtcnkpgbmegppbaaYRot
namespace Go.Proofs.Ytcnkpgbmegppbaa.M
open Go.ChangeShapes Go.WideShapes Go.ChangeAt Go.RowKit

set_option maxRecDepth 20000 in
set_option maxHeartbeats 4000000 in
theorem merge_one (g N n : Nat) (hn : n ≤ 1099511627776) (w : World) (L : List Mb) (a m b : Nat) (hR : Row w g N L) (hL : L.length = n) (Hm : Hid (m = a + 1)) (hmb : m < b) (hbn : b ≤ n) :
    Calls Try.prog 85 #[.slice (some ⟨g, 0, none⟩) n N, .int .i64 a, .int .i64 m, .int .i64 b, .func (.func 66) #[] #[]] w fun e w' => e = .returned (.tuple #[]) ∧ ∃ M, M.length = n ∧ Row w' g N M ∧ Ex g w w' := by
  have ham : a < m := by have := Hm.out; omega
  have hNl := hR.le
  go_enter Try.func85, Try.ntmps85
  have v1 : IntKind.i64.wrap ((m : Int) - (a : Int)) = 1 := by have := Hm.out; rw [IntKind.wrap_i64]; omega
  go_wp2_with fail
  go_loopw [10, 11, 12] (fun x y _ wr => ∃ (i j : Nat), m ≤ i ∧ i ≤ j ∧ j ≤ b ∧ x = .int .i64 i ∧ y = .int .i64 j ∧ Row wr g N L ∧ Ex g w wr) (fun x y _ _ => (intOf y).toNat - (intOf x).toNat)
  case atStart => exact ⟨m, b, by omega, by omega, by omega, by first | rfl | go_num | (congr 1; omega), by first | rfl | go_num | (congr 1; omega), hR, Ex.refl _ _⟩
  case round =>
    clear hR
    obtain ⟨i, j, hi, hij, hj, rfl, rfl, hR, hb⟩ := hrel
    by_cases h : i < j
    · have hlt : (i : Int) < (j : Int) := by omega
      obtain ⟨k, hk⟩ : ∃ k : Nat, ((i : Int) + (j : Int)) / 2 = (k : Int) := ⟨(i + j) / 2, by omega⟩
      have hki : i ≤ k := by omega
      have hkj : k < j := by omega
      go_wp2_with fail
      try simp only [hk]
      clear hk
      obtain ⟨x1, x2, x3⟩ := hR.at (i := k) (by omega)
      obtain ⟨y1, y2, y3⟩ := hR.at (i := a) (by omega)
      have hC := fun W => bySite_any (L.getD (k) .z0) (L.getD (a) .z0) W
      generalize L.getD (k) .z0 = X at *
      generalize L.getD (a) .z0 = Y at *
      obtain ⟨Xn, Xs, Xf⟩ := X
      obtain ⟨Yn, Ys, Yf⟩ := Y
      dsimp only at x1 x2 x3 y1 y2 y3 hC
      have k1 := cell_regrown x1
      have k2 := cell_regrown x2
      have k3 := cell_regrown x3
      have l1 := cell_regrown y1
      have l2 := cell_regrown y2
      have l3 := cell_regrown y3
      have i1 : (k : Int) < (n : Int) := by omega
      have i2 : (a : Int) < (n : Int) := by omega
      have i3 : (m : Int) < (n : Int) := by omega
      have cC : ∀ d os, Calls Try.prog 66 #[.agg #[.int .i64 Xn, .int .i64 Xs, .bool Xf], .agg #[.int .i64 Yn, .int .i64 Ys, .bool Yf]] (Sort.grow (redrawn wr d) os) fun e w'' => e = .returned (.int .i64 (cmpI Xs Ys)) ∧ ∃ p : Regrown, w'' = Sort.grow (redrawn wr p.d) p.os := fun d os => Calls.regrown_of (hC _)
      generalize cmpI Xs Ys = z at *
      clear hC
      refine wp_region_quiet_below (by kernel_rfl) (by kernel_rfl) ?_
      repeat (quiet_step (first | exact cC _ _))
      refine wpQuiet_nil ?_
      intro _ hw'
      obtain ⟨⟨dq, osq⟩, hw''⟩ := hw'
      subst hw''
      have hbq := below_regrown wr dq osq
      have hR2 := hR.up hbq
      have hb2 := hb.trans (Ex.of_below (g := g) hbq)
      clear k1 k2 k3 l1 l2 l3 x1 x2 x3 y1 y2 y3 cC hbq hR hb
      generalize Sort.grow (redrawn wr dq) osq = W2 at *
      by_cases hz : z < 0
      · have hzd : decide (z < 0) = true := decide_eq_true hz
        try simp only [hzd]
        try simp only [Bool.not_true]
        clear hzd hz
        go_wp2_with fail
        go_roundw
        case rel => exact ⟨k + 1, j, by omega, by omega, by omega, by first | rfl | go_num | (congr 1; omega), by first | rfl | go_num | (congr 1; omega), hR2, hb2⟩
        case measure => simp [intOf] <;> omega
      · have hzd : decide (z < 0) = false := decide_eq_false hz
        try simp only [hzd]
        try simp only [Bool.not_false]
        clear hzd hz
        go_wp2_with fail
        go_roundw
        case rel => exact ⟨i, k, by omega, by omega, by omega, by first | rfl | go_num | (congr 1; omega), by first | rfl | go_num | (congr 1; omega), hR2, hb2⟩
        case measure => simp [intOf] <;> omega
    · have hge : ¬ (i : Int) < (j : Int) := by omega
      obtain ⟨W1, hW1⟩ : ∃ x, x = wr := ⟨wr, rfl⟩
      rw [← hW1] at hR hb ⊢
      clear hW1
      go_wp2_with fail
      go_loopw [13] (fun x wr => ∃ (k : Nat) (M : List Mb), a ≤ k ∧ k < i ∧ x = .int .i64 k ∧ M.length = n ∧ Row wr g N M ∧ Ex g w wr) (fun x _ => b - (intOf x).toNat)
      case atStart => exact ⟨a, L, by omega, by omega, by first | rfl | go_num | (congr 1; omega), hL, hR, hb⟩
      case round =>
        clear hR hb hNl
        obtain ⟨k, M, hk1, hk2, rfl, hM, hR, hb⟩ := hrel
        have hNl := hR.le
        by_cases hk : k + 1 < i
        · have hlt : (k : Int) < (i : Int) - 1 := by omega
          obtain ⟨x1, x2, x3⟩ := hR.at (i := k) (by omega)
          obtain ⟨y1, y2, y3⟩ := hR.at (i := k + 1) (by omega)
          have f1 : wr.frozen? ⟨g, (k) * 3, none⟩ = false := (hR.thereAt (i := k) (by omega) 0 (by decide)).2
          have f2 : wr.frozen? ⟨g, (k) * 3 + 1, none⟩ = false := (hR.thereAt (i := k) (by omega) 1 (by decide)).2
          have f3 : wr.frozen? ⟨g, (k) * 3 + 2, none⟩ = false := (hR.thereAt (i := k) (by omega) 2 (by decide)).2
          have f4 : wr.frozen? ⟨g, (k + 1) * 3, none⟩ = false := (hR.thereAt (i := k + 1) (by omega) 0 (by decide)).2
          have f5 : wr.frozen? ⟨g, (k + 1) * 3 + 1, none⟩ = false := (hR.thereAt (i := k + 1) (by omega) 1 (by decide)).2
          have f6 : wr.frozen? ⟨g, (k + 1) * 3 + 2, none⟩ = false := (hR.thereAt (i := k + 1) (by omega) 2 (by decide)).2
          generalize M.getD (k) .z0 = X at *
          generalize M.getD (k + 1) .z0 = Y at *
          obtain ⟨Xn, Xs, Xf⟩ := X
          obtain ⟨Yn, Ys, Yf⟩ := Y
          dsimp only at x1 x2 x3 y1 y2 y3
          have hR3 : Row ((((((wr.setCell ⟨g, (k) * 3, none⟩ (.int .i64 Yn)).setCell ⟨g, (k) * 3 + 1, none⟩ (.int .i64 Ys)).setCell ⟨g, (k) * 3 + 2, none⟩ (.bool Yf)).setCell ⟨g, (k + 1) * 3, none⟩ (.int .i64 Xn)).setCell ⟨g, (k + 1) * 3 + 1, none⟩ (.int .i64 Xs)).setCell ⟨g, (k + 1) * 3 + 2, none⟩ (.bool Xf)) g N ((M.set (k) ⟨Yn, Ys, Yf⟩).set (k + 1) ⟨Xn, Xs, Xf⟩) :=
            (hR.set (i := k) (by omega) ⟨Yn, Ys, Yf⟩).set (i := k + 1) (by rw [List.length_set]; omega) ⟨Xn, Xs, Xf⟩
          have hb3 : Ex g w ((((((wr.setCell ⟨g, (k) * 3, none⟩ (.int .i64 Yn)).setCell ⟨g, (k) * 3 + 1, none⟩ (.int .i64 Ys)).setCell ⟨g, (k) * 3 + 2, none⟩ (.bool Yf)).setCell ⟨g, (k + 1) * 3, none⟩ (.int .i64 Xn)).setCell ⟨g, (k + 1) * 3 + 1, none⟩ (.int .i64 Xs)).setCell ⟨g, (k + 1) * 3 + 2, none⟩ (.bool Xf)) :=
            Ex.setC (Mb.cs ⟨Xn, Xs, Xf⟩) ((k + 1) * 3) _ (Ex.setC (Mb.cs ⟨Yn, Ys, Yf⟩) ((k) * 3) _ hb)
          have e1 : (k : Int) + 1 < (n : Int) := by omega
          have e2 : (k : Int) < (n : Int) := by omega
          have e3 : (0 : Int) ≤ (k : Int) + 1 := by omega
          have e4 : ((k : Int) + 1).toNat = k + 1 := by omega
          go_wp2_with fail
          go_region
          generalize ((((((wr.setCell ⟨g, (k) * 3, none⟩ (.int .i64 Yn)).setCell ⟨g, (k) * 3 + 1, none⟩ (.int .i64 Ys)).setCell ⟨g, (k) * 3 + 2, none⟩ (.bool Yf)).setCell ⟨g, (k + 1) * 3, none⟩ (.int .i64 Xn)).setCell ⟨g, (k + 1) * 3 + 1, none⟩ (.int .i64 Xs)).setCell ⟨g, (k + 1) * 3 + 2, none⟩ (.bool Xf)) = W3 at *
          go_wp2_with fail
          go_roundw
          case rel => exact ⟨k + 1, _, by omega, by omega, by first | rfl | go_num | (congr 1; omega), by rw [List.length_set, List.length_set]; exact hM, hR3.up ((Below.refl _ _).drew), hb3.drew⟩
          case measure => simp [intOf] <;> omega
        · have hge2 : ¬ (k : Int) < (i : Int) - 1 := by omega
          go_wp2_with fail
          exact bodyPost_ret (results_none rfl _ _ _) rfl ⟨rfl, M, hM, hR, hb⟩

set_option maxRecDepth 20000 in
set_option maxHeartbeats 4000000 in
theorem merge_two (g N n : Nat) (hn : n ≤ 1099511627776) (w : World) (L : List Mb) (a m b : Nat) (hR : Row w g N L) (hL : L.length = n) (hma : ¬ m = a + 1) (ham : a < m) (Hb : Hid (b = m + 1)) (hbn : b ≤ n) :
    Calls Try.prog 85 #[.slice (some ⟨g, 0, none⟩) n N, .int .i64 a, .int .i64 m, .int .i64 b, .func (.func 66) #[] #[]] w fun e w' => e = .returned (.tuple #[]) ∧ ∃ M, M.length = n ∧ Row w' g N M ∧ Ex g w w' := by
  have hmb : m < b := by have := Hb.out; omega
  have hNl := hR.le
  go_enter Try.func85, Try.ntmps85
  have v1 : IntKind.i64.wrap ((m : Int) - (a : Int)) = (m : Int) - (a : Int) := by rw [IntKind.wrap_i64]; omega
  have v3 : ((m : Int) - (a : Int) == 1) = false := by simp; omega
  have v2 : IntKind.i64.wrap ((b : Int) - (m : Int)) = 1 := by have := Hb.out; rw [IntKind.wrap_i64]; omega
  go_wp2_with fail
  go_loopw [14, 15, 16] (fun x y _ wr => ∃ (i j : Nat), a ≤ i ∧ i ≤ j ∧ j ≤ m ∧ x = .int .i64 i ∧ y = .int .i64 j ∧ Row wr g N L ∧ Ex g w wr) (fun x y _ _ => (intOf y).toNat - (intOf x).toNat)
  case atStart => exact ⟨a, m, by omega, by omega, by omega, by first | rfl | go_num | (congr 1; omega), by first | rfl | go_num | (congr 1; omega), hR, Ex.refl _ _⟩
  case round =>
    clear hR
    obtain ⟨i, j, hi, hij, hj, rfl, rfl, hR, hb⟩ := hrel
    by_cases h : i < j
    · have hlt : (i : Int) < (j : Int) := by omega
      obtain ⟨k, hk⟩ : ∃ k : Nat, ((i : Int) + (j : Int)) / 2 = (k : Int) := ⟨(i + j) / 2, by omega⟩
      have hki : i ≤ k := by omega
      have hkj : k < j := by omega
      go_wp2_with fail
      try simp only [hk]
      clear hk
      obtain ⟨x1, x2, x3⟩ := hR.at (i := m) (by omega)
      obtain ⟨y1, y2, y3⟩ := hR.at (i := k) (by omega)
      have hC := fun W => bySite_any (L.getD (m) .z0) (L.getD (k) .z0) W
      generalize L.getD (m) .z0 = X at *
      generalize L.getD (k) .z0 = Y at *
      obtain ⟨Xn, Xs, Xf⟩ := X
      obtain ⟨Yn, Ys, Yf⟩ := Y
      dsimp only at x1 x2 x3 y1 y2 y3 hC
      have k1 := cell_regrown x1
      have k2 := cell_regrown x2
      have k3 := cell_regrown x3
      have l1 := cell_regrown y1
      have l2 := cell_regrown y2
      have l3 := cell_regrown y3
      have i1 : (k : Int) < (n : Int) := by omega
      have i2 : (a : Int) < (n : Int) := by omega
      have i3 : (m : Int) < (n : Int) := by omega
      have cC : ∀ d os, Calls Try.prog 66 #[.agg #[.int .i64 Xn, .int .i64 Xs, .bool Xf], .agg #[.int .i64 Yn, .int .i64 Ys, .bool Yf]] (Sort.grow (redrawn wr d) os) fun e w'' => e = .returned (.int .i64 (cmpI Xs Ys)) ∧ ∃ p : Regrown, w'' = Sort.grow (redrawn wr p.d) p.os := fun d os => Calls.regrown_of (hC _)
      generalize cmpI Xs Ys = z at *
      clear hC
      refine wp_region_quiet_below (by kernel_rfl) (by kernel_rfl) ?_
      repeat (quiet_step (first | exact cC _ _))
      refine wpQuiet_nil ?_
      intro _ hw'
      obtain ⟨⟨dq, osq⟩, hw''⟩ := hw'
      subst hw''
      have hbq := below_regrown wr dq osq
      have hR2 := hR.up hbq
      have hb2 := hb.trans (Ex.of_below (g := g) hbq)
      clear k1 k2 k3 l1 l2 l3 x1 x2 x3 y1 y2 y3 cC hbq hR hb
      generalize Sort.grow (redrawn wr dq) osq = W2 at *
      by_cases hz : z < 0
      · have hzd : decide (z < 0) = true := decide_eq_true hz
        try simp only [hzd]
        try simp only [Bool.not_true]
        clear hzd hz
        go_wp2_with fail
        go_roundw
        case rel => exact ⟨i, k, by omega, by omega, by omega, by first | rfl | go_num | (congr 1; omega), by first | rfl | go_num | (congr 1; omega), hR2, hb2⟩
        case measure => simp [intOf] <;> omega
      · have hzd : decide (z < 0) = false := decide_eq_false hz
        try simp only [hzd]
        try simp only [Bool.not_false]
        clear hzd hz
        go_wp2_with fail
        go_roundw
        case rel => exact ⟨k + 1, j, by omega, by omega, by omega, by first | rfl | go_num | (congr 1; omega), by first | rfl | go_num | (congr 1; omega), hR2, hb2⟩
        case measure => simp [intOf] <;> omega
    · have hge : ¬ (i : Int) < (j : Int) := by omega
      obtain ⟨W1, hW1⟩ : ∃ x, x = wr := ⟨wr, rfl⟩
      rw [← hW1] at hR hb ⊢
      clear hW1
      go_wp2_with fail
      go_loopw [17] (fun x wr => ∃ (k : Nat) (M : List Mb), i ≤ k ∧ k ≤ m ∧ x = .int .i64 k ∧ M.length = n ∧ Row wr g N M ∧ Ex g w wr) (fun x _ => (intOf x).toNat)
      case atStart => exact ⟨m, L, by omega, by omega, by first | rfl | go_num | (congr 1; omega), hL, hR, hb⟩
      case round =>
        clear hR hb hNl
        obtain ⟨k, M, hk1, hk2, rfl, hM, hR, hb⟩ := hrel
        have hNl := hR.le
        by_cases hk : i < k
        · obtain ⟨p, rfl⟩ : ∃ p, k = p + 1 := ⟨k - 1, by omega⟩
          have hlt : (i : Int) < (p : Int) + 1 := by omega
          obtain ⟨x1, x2, x3⟩ := hR.at (i := p + 1) (by omega)
          obtain ⟨y1, y2, y3⟩ := hR.at (i := p) (by omega)
          have f1 : wr.frozen? ⟨g, (p + 1) * 3, none⟩ = false := (hR.thereAt (i := p + 1) (by omega) 0 (by decide)).2
          have f2 : wr.frozen? ⟨g, (p + 1) * 3 + 1, none⟩ = false := (hR.thereAt (i := p + 1) (by omega) 1 (by decide)).2
          have f3 : wr.frozen? ⟨g, (p + 1) * 3 + 2, none⟩ = false := (hR.thereAt (i := p + 1) (by omega) 2 (by decide)).2
          have f4 : wr.frozen? ⟨g, (p) * 3, none⟩ = false := (hR.thereAt (i := p) (by omega) 0 (by decide)).2
          have f5 : wr.frozen? ⟨g, (p) * 3 + 1, none⟩ = false := (hR.thereAt (i := p) (by omega) 1 (by decide)).2
          have f6 : wr.frozen? ⟨g, (p) * 3 + 2, none⟩ = false := (hR.thereAt (i := p) (by omega) 2 (by decide)).2
          generalize M.getD (p + 1) .z0 = X at *
          generalize M.getD (p) .z0 = Y at *
          obtain ⟨Xn, Xs, Xf⟩ := X
          obtain ⟨Yn, Ys, Yf⟩ := Y
          dsimp only at x1 x2 x3 y1 y2 y3
          have hR3 : Row ((((((wr.setCell ⟨g, (p + 1) * 3, none⟩ (.int .i64 Yn)).setCell ⟨g, (p + 1) * 3 + 1, none⟩ (.int .i64 Ys)).setCell ⟨g, (p + 1) * 3 + 2, none⟩ (.bool Yf)).setCell ⟨g, (p) * 3, none⟩ (.int .i64 Xn)).setCell ⟨g, (p) * 3 + 1, none⟩ (.int .i64 Xs)).setCell ⟨g, (p) * 3 + 2, none⟩ (.bool Xf)) g N ((M.set (p + 1) ⟨Yn, Ys, Yf⟩).set (p) ⟨Xn, Xs, Xf⟩) :=
            (hR.set (i := p + 1) (by omega) ⟨Yn, Ys, Yf⟩).set (i := p) (by rw [List.length_set]; omega) ⟨Xn, Xs, Xf⟩
          have hb3 : Ex g w ((((((wr.setCell ⟨g, (p + 1) * 3, none⟩ (.int .i64 Yn)).setCell ⟨g, (p + 1) * 3 + 1, none⟩ (.int .i64 Ys)).setCell ⟨g, (p + 1) * 3 + 2, none⟩ (.bool Yf)).setCell ⟨g, (p) * 3, none⟩ (.int .i64 Xn)).setCell ⟨g, (p) * 3 + 1, none⟩ (.int .i64 Xs)).setCell ⟨g, (p) * 3 + 2, none⟩ (.bool Xf)) :=
            Ex.setC (Mb.cs ⟨Xn, Xs, Xf⟩) ((p) * 3) _ (Ex.setC (Mb.cs ⟨Yn, Ys, Yf⟩) ((p + 1) * 3) _ hb)
          have e1 : (p : Int) + 1 < (n : Int) := by omega
          have e2 : (p : Int) < (n : Int) := by omega
          have e3 : (0 : Int) ≤ (p : Int) + 1 := by omega
          have e4 : ((p : Int) + 1).toNat = p + 1 := by omega
          go_wp2_with fail
          go_region
          generalize ((((((wr.setCell ⟨g, (p + 1) * 3, none⟩ (.int .i64 Yn)).setCell ⟨g, (p + 1) * 3 + 1, none⟩ (.int .i64 Ys)).setCell ⟨g, (p + 1) * 3 + 2, none⟩ (.bool Yf)).setCell ⟨g, (p) * 3, none⟩ (.int .i64 Xn)).setCell ⟨g, (p) * 3 + 1, none⟩ (.int .i64 Xs)).setCell ⟨g, (p) * 3 + 2, none⟩ (.bool Xf)) = W3 at *
          go_wp2_with fail
          go_roundw
          case rel => exact ⟨p, _, by omega, by omega, by first | rfl | go_num | (congr 1; omega), by rw [List.length_set, List.length_set]; exact hM, hR3.up ((Below.refl _ _).drew), hb3.drew⟩
          case measure => simp [intOf] <;> omega
        · have hge2 : ¬ (i : Int) < (k : Int) := by omega
          go_wp2_with fail
          exact bodyPost_ret (results_none rfl _ _ _) rfl ⟨rfl, M, hM, hR, hb⟩

end Go.Proofs.Ytcnkpgbmegppbaa.M
