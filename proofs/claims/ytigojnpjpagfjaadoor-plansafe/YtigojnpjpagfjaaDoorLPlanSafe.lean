/-
  Own text: what a stable sort of many members calls: exchanges of ranges, turns. Only that they come back, and that the row holds as many members.
  Own text: what a stable sort of many members calls: the merge. Only that it comes back, and that the row holds as many members.
  Own text: what a stable sort of many members calls: the merge of two long runs. Only that it comes back, and that the row holds as many members.
  Own text: a stable sort of as many members as may be comes back, with as many members.
  Own text: the contract of layout's First, of any members.
  Own text: the contract of New.
  Own text: what a ledger makes of the commands of a plan, in plain words.
  Own text: what the walk of the statement 'PlanSafe' needs.
  Own text: the walk of the statement 'PlanSafe'.
-/
import Derived.Test.YtigojnpjpagfjaaDoorYSort
import Derived.Test.YtigojnpjpagfjaaDoorYFirst
import Derived.Test.YtigojnpjpagfjaaDoorJLh
import Derived.Test.YtigojnpjpagfjaaDoorVAwake
namespace Go.Proofs.YtigojnpjpagfjaaDoor.M
open Go.ChangeShapes Go.WideShapes Go.ChangeAt Go.RowKit

set_option maxRecDepth 20000 in
set_option maxHeartbeats 2000000 in
theorem swapR_any (w : World) (g N : Nat) (L : List Mb) (a b m : Nat) (hR : Row w g N L) (hab : a < b) (hbn : b + m ≤ L.length) (hn : L.length ≤ 1099511627776) :
    Calls Tryd.prog 106 #[.slice (some ⟨g, 0, none⟩) L.length N, .int .i64 a, .int .i64 b, .int .i64 m, .func (.func 67) #[] #[]] w fun e w' => e = .returned (.tuple #[]) ∧ ∃ M, M.length = L.length ∧ Row w' g N M ∧ Ex g w w' := by
  have hNl := hR.le
  generalize hn0 : L.length = n at *
  go_enter Tryd.func106, Tryd.ntmps106
  go_wp2_with fail
  go_loopw [10] (fun i wr => ∃ (k : Nat) (M : List Mb), k ≤ m ∧ i = .int .i64 k ∧ M.length = n ∧ Row wr g N M ∧ Ex g w wr) (fun i _ => m - (intOf i).toNat)
  case atStart => exact ⟨0, L, Nat.zero_le _, by go_num, hn0, hR, Ex.refl _ _⟩
  case round =>
    clear hR
    obtain ⟨k, M, hk2, rfl, hM, hR, hb⟩ := hrel
    by_cases h : k < m
    · have hkb : (k : Int) < (m : Int) := by omega
      obtain ⟨x1, x2, x3⟩ := hR.at (i := a + k) (by omega)
      obtain ⟨y1, y2, y3⟩ := hR.at (i := b + k) (by omega)
      have f1 : wr.frozen? ⟨g, (a + k) * 3, none⟩ = false := (hR.thereAt (i := a + k) (by omega) 0 (by decide)).2
      have f2 : wr.frozen? ⟨g, (a + k) * 3 + 1, none⟩ = false := (hR.thereAt (i := a + k) (by omega) 1 (by decide)).2
      have f3 : wr.frozen? ⟨g, (a + k) * 3 + 2, none⟩ = false := (hR.thereAt (i := a + k) (by omega) 2 (by decide)).2
      have f4 : wr.frozen? ⟨g, (b + k) * 3, none⟩ = false := (hR.thereAt (i := b + k) (by omega) 0 (by decide)).2
      have f5 : wr.frozen? ⟨g, (b + k) * 3 + 1, none⟩ = false := (hR.thereAt (i := b + k) (by omega) 1 (by decide)).2
      have f6 : wr.frozen? ⟨g, (b + k) * 3 + 2, none⟩ = false := (hR.thereAt (i := b + k) (by omega) 2 (by decide)).2
      generalize M.getD (a + k) .z0 = X at *
      generalize M.getD (b + k) .z0 = Y at *
      obtain ⟨Xn, Xs, Xf⟩ := X
      obtain ⟨Yn, Ys, Yf⟩ := Y
      dsimp only at x1 x2 x3 y1 y2 y3
      have hR3 : Row ((((((wr.setCell ⟨g, (a + k) * 3, none⟩ (.int .i64 Yn)).setCell ⟨g, (a + k) * 3 + 1, none⟩ (.int .i64 Ys)).setCell ⟨g, (a + k) * 3 + 2, none⟩ (.bool Yf)).setCell ⟨g, (b + k) * 3, none⟩ (.int .i64 Xn)).setCell ⟨g, (b + k) * 3 + 1, none⟩ (.int .i64 Xs)).setCell ⟨g, (b + k) * 3 + 2, none⟩ (.bool Xf)) g N ((M.set (a + k) ⟨Yn, Ys, Yf⟩).set (b + k) ⟨Xn, Xs, Xf⟩) :=
        (hR.set (i := a + k) (by omega) ⟨Yn, Ys, Yf⟩).set (i := b + k) (by rw [List.length_set]; omega) ⟨Xn, Xs, Xf⟩
      have hb3 : Ex g w ((((((wr.setCell ⟨g, (a + k) * 3, none⟩ (.int .i64 Yn)).setCell ⟨g, (a + k) * 3 + 1, none⟩ (.int .i64 Ys)).setCell ⟨g, (a + k) * 3 + 2, none⟩ (.bool Yf)).setCell ⟨g, (b + k) * 3, none⟩ (.int .i64 Xn)).setCell ⟨g, (b + k) * 3 + 1, none⟩ (.int .i64 Xs)).setCell ⟨g, (b + k) * 3 + 2, none⟩ (.bool Xf)) :=
        Ex.setC (Mb.cs ⟨Xn, Xs, Xf⟩) ((b + k) * 3) _ (Ex.setC (Mb.cs ⟨Yn, Ys, Yf⟩) ((a + k) * 3) _ hb)
      have ne : a + k ≠ b + k := by omega
      have q1 : (a : Int) + (k : Int) < (n : Int) := by omega
      have q2 : (b : Int) + (k : Int) < (n : Int) := by omega
      have p1 : (0 : Int) ≤ (a : Int) + (k : Int) := by omega
      have p2 : (0 : Int) ≤ (b : Int) + (k : Int) := by omega
      have t1 : ((a : Int) + (k : Int)).toNat = a + k := by omega
      have t2 : ((b : Int) + (k : Int)).toNat = b + k := by omega
      have w1 : IntKind.i64.wrap ((a : Int) + (k : Int)) = (a : Int) + (k : Int) := by rw [IntKind.wrap_i64]; omega
      have w2 : IntKind.i64.wrap ((b : Int) + (k : Int)) = (b : Int) + (k : Int) := by rw [IntKind.wrap_i64]; omega
      go_wp2_with fail
      go_region
      generalize ((((((wr.setCell ⟨g, (a + k) * 3, none⟩ (.int .i64 Yn)).setCell ⟨g, (a + k) * 3 + 1, none⟩ (.int .i64 Ys)).setCell ⟨g, (a + k) * 3 + 2, none⟩ (.bool Yf)).setCell ⟨g, (b + k) * 3, none⟩ (.int .i64 Xn)).setCell ⟨g, (b + k) * 3 + 1, none⟩ (.int .i64 Xs)).setCell ⟨g, (b + k) * 3 + 2, none⟩ (.bool Xf)) = W3 at *
      go_wp2_with fail
      go_roundw
      case rel => exact ⟨k + 1, _, by omega, by go_num, by rw [List.length_set, List.length_set]; exact hM, hR3.up ((Below.refl _ _).drew), hb3.drew⟩
      case measure => simp [intOf]; omega
    · have hkb : ¬ (k : Int) < (m : Int) := by omega
      go_wp2_with fail
      go_end0
      exact ⟨rfl, M, hM, hR, hb⟩

set_option maxRecDepth 20000 in
set_option maxHeartbeats 2000000 in
theorem rotate_any (w : World) (g N : Nat) (L : List Mb) (a m b : Nat) (hR : Row w g N L) (ham : a < m) (hmb : m < b) (hbn : b ≤ L.length) (hn : L.length ≤ 1099511627776) :
    Calls Tryd.prog 104 #[.slice (some ⟨g, 0, none⟩) L.length N, .int .i64 a, .int .i64 m, .int .i64 b, .func (.func 67) #[] #[]] w fun e w' => e = .returned (.tuple #[]) ∧ ∃ M, M.length = L.length ∧ Row w' g N M ∧ Ex g w w' := by
  generalize hn0 : L.length = n at *
  have v1 : IntKind.i64.wrap ((m : Int) - (a : Int)) = ((m - a : Nat) : Int) := by rw [IntKind.wrap_i64]; omega
  have v2 : IntKind.i64.wrap ((b : Int) - (m : Int)) = ((b - m : Nat) : Int) := by rw [IntKind.wrap_i64]; omega
  go_enter Tryd.func104, Tryd.ntmps104
  go_wp2_with fail
  go_loopw [10, 11] (fun x y wr => ∃ (i j : Nat) (M : List Mb), 0 < i ∧ 0 < j ∧ i ≤ m ∧ m + j ≤ n ∧ x = .int .i64 i ∧ y = .int .i64 j ∧ M.length = n ∧ Row wr g N M ∧ Ex g w wr) (fun x y _ => (intOf x).toNat + (intOf y).toNat)
  case atStart => exact ⟨m - a, b - m, L, by omega, by omega, by omega, by omega, by first | rfl | go_num, by first | rfl | go_num, hn0, hR, Ex.refl _ _⟩
  case round =>
    clear hR v1 v2
    obtain ⟨i, j, M, hi, hj, him, hjn, rfl, rfl, hM, hR, hb⟩ := hrel
    have u1 : IntKind.i64.wrap ((m : Int) - (i : Int)) = ((m - i : Nat) : Int) := by rw [IntKind.wrap_i64]; omega
    rcases Nat.lt_trichotomy i j with hij | hij | hij
    · have hS := swapR_any wr g N M (m - i) (m + j - i) i hR (by omega) (by omega) (by omega)
      rw [hM] at hS
      have hne : ((i : Int) != (j : Int)) = true := by simp; omega
      have hgt : ¬ (j : Int) < (i : Int) := by omega
      have u2 : IntKind.i64.wrap ((m : Int) + (j : Int)) = (m : Int) + (j : Int) := by rw [IntKind.wrap_i64]; omega
      have u3 : IntKind.i64.wrap ((m : Int) + (j : Int) - (i : Int)) = ((m + j - i : Nat) : Int) := by rw [IntKind.wrap_i64]; omega
      have u4 : IntKind.i64.wrap ((j : Int) - (i : Int)) = ((j - i : Nat) : Int) := by rw [IntKind.wrap_i64]; omega
      generalize hx1 : m - i = s1 at *
      generalize hx2 : m + j - i = s2 at *
      generalize hx3 : j - i = s3 at *
      go_wp2_with fail
      refine hS.mono ?_
      rintro r w1 ⟨rfl, M1, hM1, hR1, hb1⟩
      go_wp2_with fail
      go_roundw
      case rel => exact ⟨i, s3, M1, by omega, by omega, by omega, by omega, by first | rfl | go_num, by first | rfl | go_num, hM1, hR1, hb.trans hb1⟩
      case measure => simp [intOf]; omega
    · subst hij
      have hS := swapR_any wr g N M (m - i) m i hR (by omega) (by omega) (by omega)
      rw [hM] at hS
      generalize hx1 : m - i = s1 at *
      go_wp2_with fail
      refine hS.mono ?_
      rintro r w1 ⟨rfl, M1, hM1, hR1, hb1⟩
      go_wp2_with fail
      go_end0
      exact ⟨rfl, M1, hM1, hR1, hb.trans hb1⟩
    · have hS := swapR_any wr g N M (m - i) m j hR (by omega) (by omega) (by omega)
      rw [hM] at hS
      have hne : ((i : Int) != (j : Int)) = true := by simp; omega
      have hgt : (j : Int) < (i : Int) := by omega
      have u4 : IntKind.i64.wrap ((i : Int) - (j : Int)) = ((i - j : Nat) : Int) := by rw [IntKind.wrap_i64]; omega
      generalize hx1 : m - i = s1 at *
      generalize hx3 : i - j = s3 at *
      go_wp2_with fail
      refine hS.mono ?_
      rintro r w1 ⟨rfl, M1, hM1, hR1, hb1⟩
      go_wp2_with fail
      go_roundw
      case rel => exact ⟨s3, j, M1, by omega, by omega, by omega, by omega, by first | rfl | go_num, by first | rfl | go_num, hM1, hR1, hb.trans hb1⟩
      case measure => simp [intOf]; omega

end Go.Proofs.YtigojnpjpagfjaaDoor.M

namespace Go.Proofs.YtigojnpjpagfjaaDoor.M
open Go.ChangeShapes Go.WideShapes Go.ChangeAt Go.RowKit

set_option maxRecDepth 20000 in
set_option maxHeartbeats 4000000 in
theorem merge_one (g N n : Nat) (hn : n ≤ 1099511627776) (w : World) (L : List Mb) (a m b : Nat) (hR : Row w g N L) (hL : L.length = n) (Hm : Hid (m = a + 1)) (hmb : m < b) (hbn : b ≤ n) :
    Calls Tryd.prog 97 #[.slice (some ⟨g, 0, none⟩) n N, .int .i64 a, .int .i64 m, .int .i64 b, .func (.func 67) #[] #[]] w fun e w' => e = .returned (.tuple #[]) ∧ ∃ M, M.length = n ∧ Row w' g N M ∧ Ex g w w' := by
  have ham : a < m := by have := Hm.out; omega
  have hNl := hR.le
  go_enter Tryd.func97, Tryd.ntmps97
  have v1 : IntKind.i64.wrap ((m : Int) - (a : Int)) = 1 := by have := Hm.out; rw [IntKind.wrap_i64]; omega
  go_wp2_with fail
  go_loopw [10, 11, 12] (fun x y _ wr => ∃ (i j : Nat), m ≤ i ∧ i ≤ j ∧ j ≤ b ∧ x = .int .i64 i ∧ y = .int .i64 j ∧ Row wr g N L ∧ Ex g w wr) (fun x y _ _ => (intOf y).toNat - (intOf x).toNat)
  case atStart => exact ⟨m, b, by omega, by omega, by omega, by first | rfl | go_num | (congr 1; omega), by first | rfl | go_num | (congr 1; omega), hR, Ex.refl _ _⟩
  case round =>
    clear hR
    obtain ⟨i, j, hi, hij, hj, rfl, rfl, hR, hb⟩ := hrel
    by_cases h : i < j
    · have hlt : (i : Int) < (j : Int) := by omega
      obtain ⟨k, hk⟩ : ∃ k : Nat, ((i : Int) + (j : Int)) / 2 = (k : Int) := ⟨(i + j) / 2, by omega⟩
      have hki : i ≤ k := by omega
      have hkj : k < j := by omega
      go_wp2_with fail
      try simp only [hk]
      clear hk
      obtain ⟨x1, x2, x3⟩ := hR.at (i := k) (by omega)
      obtain ⟨y1, y2, y3⟩ := hR.at (i := a) (by omega)
      have hC := fun W => bySite_any (L.getD (k) .z0) (L.getD (a) .z0) W
      generalize L.getD (k) .z0 = X at *
      generalize L.getD (a) .z0 = Y at *
      obtain ⟨Xn, Xs, Xf⟩ := X
      obtain ⟨Yn, Ys, Yf⟩ := Y
      dsimp only at x1 x2 x3 y1 y2 y3 hC
      have k1 := cell_regrown x1
      have k2 := cell_regrown x2
      have k3 := cell_regrown x3
      have l1 := cell_regrown y1
      have l2 := cell_regrown y2
      have l3 := cell_regrown y3
      have i1 : (k : Int) < (n : Int) := by omega
      have i2 : (a : Int) < (n : Int) := by omega
      have i3 : (m : Int) < (n : Int) := by omega
      have cC : ∀ d os, Calls Tryd.prog 67 #[.agg #[.int .i64 Xn, .int .i64 Xs, .bool Xf], .agg #[.int .i64 Yn, .int .i64 Ys, .bool Yf]] (Sort.grow (redrawn wr d) os) fun e w'' => e = .returned (.int .i64 (cmpI Xs Ys)) ∧ ∃ p : Regrown, w'' = Sort.grow (redrawn wr p.d) p.os := fun d os => Calls.regrown_of (hC _)
      generalize cmpI Xs Ys = z at *
      clear hC
      refine wp_region_quiet_below (by kernel_rfl) (by kernel_rfl) ?_
      repeat (quiet_step (first | exact cC _ _))
      refine wpQuiet_nil ?_
      intro _ hw'
      obtain ⟨⟨dq, osq⟩, hw''⟩ := hw'
      subst hw''
      have hbq := below_regrown wr dq osq
      have hR2 := hR.up hbq
      have hb2 := hb.trans (Ex.of_below (g := g) hbq)
      clear k1 k2 k3 l1 l2 l3 x1 x2 x3 y1 y2 y3 cC hbq hR hb
      generalize Sort.grow (redrawn wr dq) osq = W2 at *
      by_cases hz : z < 0
      · have hzd : decide (z < 0) = true := decide_eq_true hz
        try simp only [hzd]
        try simp only [Bool.not_true]
        clear hzd hz
        go_wp2_with fail
        go_roundw
        case rel => exact ⟨k + 1, j, by omega, by omega, by omega, by first | rfl | go_num | (congr 1; omega), by first | rfl | go_num | (congr 1; omega), hR2, hb2⟩
        case measure => simp [intOf] <;> omega
      · have hzd : decide (z < 0) = false := decide_eq_false hz
        try simp only [hzd]
        try simp only [Bool.not_false]
        clear hzd hz
        go_wp2_with fail
        go_roundw
        case rel => exact ⟨i, k, by omega, by omega, by omega, by first | rfl | go_num | (congr 1; omega), by first | rfl | go_num | (congr 1; omega), hR2, hb2⟩
        case measure => simp [intOf] <;> omega
    · have hge : ¬ (i : Int) < (j : Int) := by omega
      obtain ⟨W1, hW1⟩ : ∃ x, x = wr := ⟨wr, rfl⟩
      rw [← hW1] at hR hb ⊢
      clear hW1
      go_wp2_with fail
      go_loopw [13] (fun x wr => ∃ (k : Nat) (M : List Mb), a ≤ k ∧ k < i ∧ x = .int .i64 k ∧ M.length = n ∧ Row wr g N M ∧ Ex g w wr) (fun x _ => b - (intOf x).toNat)
      case atStart => exact ⟨a, L, by omega, by omega, by first | rfl | go_num | (congr 1; omega), hL, hR, hb⟩
      case round =>
        clear hR hb hNl
        obtain ⟨k, M, hk1, hk2, rfl, hM, hR, hb⟩ := hrel
        have hNl := hR.le
        by_cases hk : k + 1 < i
        · have hlt : (k : Int) < (i : Int) - 1 := by omega
          obtain ⟨x1, x2, x3⟩ := hR.at (i := k) (by omega)
          obtain ⟨y1, y2, y3⟩ := hR.at (i := k + 1) (by omega)
          have f1 : wr.frozen? ⟨g, (k) * 3, none⟩ = false := (hR.thereAt (i := k) (by omega) 0 (by decide)).2
          have f2 : wr.frozen? ⟨g, (k) * 3 + 1, none⟩ = false := (hR.thereAt (i := k) (by omega) 1 (by decide)).2
          have f3 : wr.frozen? ⟨g, (k) * 3 + 2, none⟩ = false := (hR.thereAt (i := k) (by omega) 2 (by decide)).2
          have f4 : wr.frozen? ⟨g, (k + 1) * 3, none⟩ = false := (hR.thereAt (i := k + 1) (by omega) 0 (by decide)).2
          have f5 : wr.frozen? ⟨g, (k + 1) * 3 + 1, none⟩ = false := (hR.thereAt (i := k + 1) (by omega) 1 (by decide)).2
          have f6 : wr.frozen? ⟨g, (k + 1) * 3 + 2, none⟩ = false := (hR.thereAt (i := k + 1) (by omega) 2 (by decide)).2
          generalize M.getD (k) .z0 = X at *
          generalize M.getD (k + 1) .z0 = Y at *
          obtain ⟨Xn, Xs, Xf⟩ := X
          obtain ⟨Yn, Ys, Yf⟩ := Y
          dsimp only at x1 x2 x3 y1 y2 y3
          have hR3 : Row ((((((wr.setCell ⟨g, (k) * 3, none⟩ (.int .i64 Yn)).setCell ⟨g, (k) * 3 + 1, none⟩ (.int .i64 Ys)).setCell ⟨g, (k) * 3 + 2, none⟩ (.bool Yf)).setCell ⟨g, (k + 1) * 3, none⟩ (.int .i64 Xn)).setCell ⟨g, (k + 1) * 3 + 1, none⟩ (.int .i64 Xs)).setCell ⟨g, (k + 1) * 3 + 2, none⟩ (.bool Xf)) g N ((M.set (k) ⟨Yn, Ys, Yf⟩).set (k + 1) ⟨Xn, Xs, Xf⟩) :=
            (hR.set (i := k) (by omega) ⟨Yn, Ys, Yf⟩).set (i := k + 1) (by rw [List.length_set]; omega) ⟨Xn, Xs, Xf⟩
          have hb3 : Ex g w ((((((wr.setCell ⟨g, (k) * 3, none⟩ (.int .i64 Yn)).setCell ⟨g, (k) * 3 + 1, none⟩ (.int .i64 Ys)).setCell ⟨g, (k) * 3 + 2, none⟩ (.bool Yf)).setCell ⟨g, (k + 1) * 3, none⟩ (.int .i64 Xn)).setCell ⟨g, (k + 1) * 3 + 1, none⟩ (.int .i64 Xs)).setCell ⟨g, (k + 1) * 3 + 2, none⟩ (.bool Xf)) :=
            Ex.setC (Mb.cs ⟨Xn, Xs, Xf⟩) ((k + 1) * 3) _ (Ex.setC (Mb.cs ⟨Yn, Ys, Yf⟩) ((k) * 3) _ hb)
          have e1 : (k : Int) + 1 < (n : Int) := by omega
          have e2 : (k : Int) < (n : Int) := by omega
          have e3 : (0 : Int) ≤ (k : Int) + 1 := by omega
          have e4 : ((k : Int) + 1).toNat = k + 1 := by omega
          go_wp2_with fail
          go_region
          generalize ((((((wr.setCell ⟨g, (k) * 3, none⟩ (.int .i64 Yn)).setCell ⟨g, (k) * 3 + 1, none⟩ (.int .i64 Ys)).setCell ⟨g, (k) * 3 + 2, none⟩ (.bool Yf)).setCell ⟨g, (k + 1) * 3, none⟩ (.int .i64 Xn)).setCell ⟨g, (k + 1) * 3 + 1, none⟩ (.int .i64 Xs)).setCell ⟨g, (k + 1) * 3 + 2, none⟩ (.bool Xf)) = W3 at *
          go_wp2_with fail
          go_roundw
          case rel => exact ⟨k + 1, _, by omega, by omega, by first | rfl | go_num | (congr 1; omega), by rw [List.length_set, List.length_set]; exact hM, hR3.up ((Below.refl _ _).drew), hb3.drew⟩
          case measure => simp [intOf] <;> omega
        · have hge2 : ¬ (k : Int) < (i : Int) - 1 := by omega
          go_wp2_with fail
          exact bodyPost_ret (results_none rfl _ _ _) rfl ⟨rfl, M, hM, hR, hb⟩

set_option maxRecDepth 20000 in
set_option maxHeartbeats 4000000 in
theorem merge_two (g N n : Nat) (hn : n ≤ 1099511627776) (w : World) (L : List Mb) (a m b : Nat) (hR : Row w g N L) (hL : L.length = n) (hma : ¬ m = a + 1) (ham : a < m) (Hb : Hid (b = m + 1)) (hbn : b ≤ n) :
    Calls Tryd.prog 97 #[.slice (some ⟨g, 0, none⟩) n N, .int .i64 a, .int .i64 m, .int .i64 b, .func (.func 67) #[] #[]] w fun e w' => e = .returned (.tuple #[]) ∧ ∃ M, M.length = n ∧ Row w' g N M ∧ Ex g w w' := by
  have hmb : m < b := by have := Hb.out; omega
  have hNl := hR.le
  go_enter Tryd.func97, Tryd.ntmps97
  have v1 : IntKind.i64.wrap ((m : Int) - (a : Int)) = (m : Int) - (a : Int) := by rw [IntKind.wrap_i64]; omega
  have v3 : ((m : Int) - (a : Int) == 1) = false := by simp; omega
  have v2 : IntKind.i64.wrap ((b : Int) - (m : Int)) = 1 := by have := Hb.out; rw [IntKind.wrap_i64]; omega
  go_wp2_with fail
  go_loopw [14, 15, 16] (fun x y _ wr => ∃ (i j : Nat), a ≤ i ∧ i ≤ j ∧ j ≤ m ∧ x = .int .i64 i ∧ y = .int .i64 j ∧ Row wr g N L ∧ Ex g w wr) (fun x y _ _ => (intOf y).toNat - (intOf x).toNat)
  case atStart => exact ⟨a, m, by omega, by omega, by omega, by first | rfl | go_num | (congr 1; omega), by first | rfl | go_num | (congr 1; omega), hR, Ex.refl _ _⟩
  case round =>
    clear hR
    obtain ⟨i, j, hi, hij, hj, rfl, rfl, hR, hb⟩ := hrel
    by_cases h : i < j
    · have hlt : (i : Int) < (j : Int) := by omega
      obtain ⟨k, hk⟩ : ∃ k : Nat, ((i : Int) + (j : Int)) / 2 = (k : Int) := ⟨(i + j) / 2, by omega⟩
      have hki : i ≤ k := by omega
      have hkj : k < j := by omega
      go_wp2_with fail
      try simp only [hk]
      clear hk
      obtain ⟨x1, x2, x3⟩ := hR.at (i := m) (by omega)
      obtain ⟨y1, y2, y3⟩ := hR.at (i := k) (by omega)
      have hC := fun W => bySite_any (L.getD (m) .z0) (L.getD (k) .z0) W
      generalize L.getD (m) .z0 = X at *
      generalize L.getD (k) .z0 = Y at *
      obtain ⟨Xn, Xs, Xf⟩ := X
      obtain ⟨Yn, Ys, Yf⟩ := Y
      dsimp only at x1 x2 x3 y1 y2 y3 hC
      have k1 := cell_regrown x1
      have k2 := cell_regrown x2
      have k3 := cell_regrown x3
      have l1 := cell_regrown y1
      have l2 := cell_regrown y2
      have l3 := cell_regrown y3
      have i1 : (k : Int) < (n : Int) := by omega
      have i2 : (a : Int) < (n : Int) := by omega
      have i3 : (m : Int) < (n : Int) := by omega
      have cC : ∀ d os, Calls Tryd.prog 67 #[.agg #[.int .i64 Xn, .int .i64 Xs, .bool Xf], .agg #[.int .i64 Yn, .int .i64 Ys, .bool Yf]] (Sort.grow (redrawn wr d) os) fun e w'' => e = .returned (.int .i64 (cmpI Xs Ys)) ∧ ∃ p : Regrown, w'' = Sort.grow (redrawn wr p.d) p.os := fun d os => Calls.regrown_of (hC _)
      generalize cmpI Xs Ys = z at *
      clear hC
      refine wp_region_quiet_below (by kernel_rfl) (by kernel_rfl) ?_
      repeat (quiet_step (first | exact cC _ _))
      refine wpQuiet_nil ?_
      intro _ hw'
      obtain ⟨⟨dq, osq⟩, hw''⟩ := hw'
      subst hw''
      have hbq := below_regrown wr dq osq
      have hR2 := hR.up hbq
      have hb2 := hb.trans (Ex.of_below (g := g) hbq)
      clear k1 k2 k3 l1 l2 l3 x1 x2 x3 y1 y2 y3 cC hbq hR hb
      generalize Sort.grow (redrawn wr dq) osq = W2 at *
      by_cases hz : z < 0
      · have hzd : decide (z < 0) = true := decide_eq_true hz
        try simp only [hzd]
        try simp only [Bool.not_true]
        clear hzd hz
        go_wp2_with fail
        go_roundw
        case rel => exact ⟨i, k, by omega, by omega, by omega, by first | rfl | go_num | (congr 1; omega), by first | rfl | go_num | (congr 1; omega), hR2, hb2⟩
        case measure => simp [intOf] <;> omega
      · have hzd : decide (z < 0) = false := decide_eq_false hz
        try simp only [hzd]
        try simp only [Bool.not_false]
        clear hzd hz
        go_wp2_with fail
        go_roundw
        case rel => exact ⟨k + 1, j, by omega, by omega, by omega, by first | rfl | go_num | (congr 1; omega), by first | rfl | go_num | (congr 1; omega), hR2, hb2⟩
        case measure => simp [intOf] <;> omega
    · have hge : ¬ (i : Int) < (j : Int) := by omega
      obtain ⟨W1, hW1⟩ : ∃ x, x = wr := ⟨wr, rfl⟩
      rw [← hW1] at hR hb ⊢
      clear hW1
      go_wp2_with fail
      go_loopw [17] (fun x wr => ∃ (k : Nat) (M : List Mb), i ≤ k ∧ k ≤ m ∧ x = .int .i64 k ∧ M.length = n ∧ Row wr g N M ∧ Ex g w wr) (fun x _ => (intOf x).toNat)
      case atStart => exact ⟨m, L, by omega, by omega, by first | rfl | go_num | (congr 1; omega), hL, hR, hb⟩
      case round =>
        clear hR hb hNl
        obtain ⟨k, M, hk1, hk2, rfl, hM, hR, hb⟩ := hrel
        have hNl := hR.le
        by_cases hk : i < k
        · obtain ⟨p, rfl⟩ : ∃ p, k = p + 1 := ⟨k - 1, by omega⟩
          have hlt : (i : Int) < (p : Int) + 1 := by omega
          obtain ⟨x1, x2, x3⟩ := hR.at (i := p + 1) (by omega)
          obtain ⟨y1, y2, y3⟩ := hR.at (i := p) (by omega)
          have f1 : wr.frozen? ⟨g, (p + 1) * 3, none⟩ = false := (hR.thereAt (i := p + 1) (by omega) 0 (by decide)).2
          have f2 : wr.frozen? ⟨g, (p + 1) * 3 + 1, none⟩ = false := (hR.thereAt (i := p + 1) (by omega) 1 (by decide)).2
          have f3 : wr.frozen? ⟨g, (p + 1) * 3 + 2, none⟩ = false := (hR.thereAt (i := p + 1) (by omega) 2 (by decide)).2
          have f4 : wr.frozen? ⟨g, (p) * 3, none⟩ = false := (hR.thereAt (i := p) (by omega) 0 (by decide)).2
          have f5 : wr.frozen? ⟨g, (p) * 3 + 1, none⟩ = false := (hR.thereAt (i := p) (by omega) 1 (by decide)).2
          have f6 : wr.frozen? ⟨g, (p) * 3 + 2, none⟩ = false := (hR.thereAt (i := p) (by omega) 2 (by decide)).2
          generalize M.getD (p + 1) .z0 = X at *
          generalize M.getD (p) .z0 = Y at *
          obtain ⟨Xn, Xs, Xf⟩ := X
          obtain ⟨Yn, Ys, Yf⟩ := Y
          dsimp only at x1 x2 x3 y1 y2 y3
          have hR3 : Row ((((((wr.setCell ⟨g, (p + 1) * 3, none⟩ (.int .i64 Yn)).setCell ⟨g, (p + 1) * 3 + 1, none⟩ (.int .i64 Ys)).setCell ⟨g, (p + 1) * 3 + 2, none⟩ (.bool Yf)).setCell ⟨g, (p) * 3, none⟩ (.int .i64 Xn)).setCell ⟨g, (p) * 3 + 1, none⟩ (.int .i64 Xs)).setCell ⟨g, (p) * 3 + 2, none⟩ (.bool Xf)) g N ((M.set (p + 1) ⟨Yn, Ys, Yf⟩).set (p) ⟨Xn, Xs, Xf⟩) :=
            (hR.set (i := p + 1) (by omega) ⟨Yn, Ys, Yf⟩).set (i := p) (by rw [List.length_set]; omega) ⟨Xn, Xs, Xf⟩
          have hb3 : Ex g w ((((((wr.setCell ⟨g, (p + 1) * 3, none⟩ (.int .i64 Yn)).setCell ⟨g, (p + 1) * 3 + 1, none⟩ (.int .i64 Ys)).setCell ⟨g, (p + 1) * 3 + 2, none⟩ (.bool Yf)).setCell ⟨g, (p) * 3, none⟩ (.int .i64 Xn)).setCell ⟨g, (p) * 3 + 1, none⟩ (.int .i64 Xs)).setCell ⟨g, (p) * 3 + 2, none⟩ (.bool Xf)) :=
            Ex.setC (Mb.cs ⟨Xn, Xs, Xf⟩) ((p) * 3) _ (Ex.setC (Mb.cs ⟨Yn, Ys, Yf⟩) ((p + 1) * 3) _ hb)
          have e1 : (p : Int) + 1 < (n : Int) := by omega
          have e2 : (p : Int) < (n : Int) := by omega
          have e3 : (0 : Int) ≤ (p : Int) + 1 := by omega
          have e4 : ((p : Int) + 1).toNat = p + 1 := by omega
          go_wp2_with fail
          go_region
          generalize ((((((wr.setCell ⟨g, (p + 1) * 3, none⟩ (.int .i64 Yn)).setCell ⟨g, (p + 1) * 3 + 1, none⟩ (.int .i64 Ys)).setCell ⟨g, (p + 1) * 3 + 2, none⟩ (.bool Yf)).setCell ⟨g, (p) * 3, none⟩ (.int .i64 Xn)).setCell ⟨g, (p) * 3 + 1, none⟩ (.int .i64 Xs)).setCell ⟨g, (p) * 3 + 2, none⟩ (.bool Xf)) = W3 at *
          go_wp2_with fail
          go_roundw
          case rel => exact ⟨p, _, by omega, by omega, by first | rfl | go_num | (congr 1; omega), by rw [List.length_set, List.length_set]; exact hM, hR3.up ((Below.refl _ _).drew), hb3.drew⟩
          case measure => simp [intOf] <;> omega
        · have hge2 : ¬ (i : Int) < (k : Int) := by omega
          go_wp2_with fail
          exact bodyPost_ret (results_none rfl _ _ _) rfl ⟨rfl, M, hM, hR, hb⟩

end Go.Proofs.YtigojnpjpagfjaaDoor.M

namespace Go.Proofs.YtigojnpjpagfjaaDoor.M
open Go.ChangeShapes Go.WideShapes Go.ChangeAt Go.RowKit

set_option maxRecDepth 20000 in
set_option maxHeartbeats 4000000 in
theorem merge_rest (g N n : Nat) (hn : n ≤ 1099511627776) (s : Nat) (w : World) (L : List Mb) (a m b : Nat) (hs : b - a ≤ s + 1) (hR : Row w g N L) (hL : L.length = n) (hma : ¬ m = a + 1) (ham : a < m) (hbm : ¬ b = m + 1) (hmb : m < b) (hbn : b ≤ n)
    (IH : ∀ (w : World) (L : List Mb) (a m b : Nat), b - a ≤ s → Row w g N L → L.length = n → a < m → m < b → b ≤ n →
      Calls Tryd.prog 97 #[.slice (some ⟨g, 0, none⟩) n N, .int .i64 a, .int .i64 m, .int .i64 b, .func (.func 67) #[] #[]] w fun e w' => e = .returned (.tuple #[]) ∧ ∃ M, M.length = n ∧ Row w' g N M ∧ Ex g w w') :
    Calls Tryd.prog 97 #[.slice (some ⟨g, 0, none⟩) n N, .int .i64 a, .int .i64 m, .int .i64 b, .func (.func 67) #[] #[]] w fun e w' => e = .returned (.tuple #[]) ∧ ∃ M, M.length = n ∧ Row w' g N M ∧ Ex g w w' := by
  have hNl := hR.le
  go_enter Tryd.func97, Tryd.ntmps97
  have v1 : IntKind.i64.wrap ((m : Int) - (a : Int)) = (m : Int) - (a : Int) := by rw [IntKind.wrap_i64]; omega
  have v3 : ((m : Int) - (a : Int) == 1) = false := by simp; omega
  have v2 : IntKind.i64.wrap ((b : Int) - (m : Int)) = (b : Int) - (m : Int) := by rw [IntKind.wrap_i64]; omega
  have v4 : ((b : Int) - (m : Int) == 1) = false := by simp; omega
  obtain ⟨d, hd⟩ : ∃ d : Nat, ((a : Int) + (b : Int)) / 2 = (d : Int) := ⟨(a + b) / 2, by omega⟩
  have hd1 : a + b ≤ 2 * d + 1 := by omega
  have hd2 : 2 * d ≤ a + b := by omega
  obtain ⟨P, hP⟩ : ∃ P : Nat, (d : Int) + (m : Int) - 1 = (P : Int) := ⟨d + m - 1, by omega⟩
  have hP1 : P + 1 = d + m := by omega
  by_cases hmd : d < m
  · have hmi : (d : Int) < (m : Int) := by omega
    obtain ⟨s0, hs0⟩ : ∃ s0 : Nat, (d : Int) + (m : Int) - (b : Int) = (s0 : Int) := ⟨d + m - b, by omega⟩
    have hs1 : s0 + b = d + m := by omega
    go_wp2_with fail
    clear hd hs0 hP
    go_loopw [20, 21, 23] (fun x y _ wr => ∃ (i j : Nat), s0 ≤ i ∧ i ≤ j ∧ j ≤ d ∧ x = .int .i64 i ∧ y = .int .i64 j ∧ Row wr g N L ∧ Ex g w wr) (fun x y _ _ => (intOf y).toNat - (intOf x).toNat)
    case atStart => exact ⟨s0, d, by omega, by omega, by omega, by first | rfl | go_num | (congr 1; omega), by first | rfl | go_num | (congr 1; omega), hR, Ex.refl _ _⟩
    case round =>
      clear hR
      obtain ⟨i, j, hi, hij, hj, rfl, rfl, hR, hb⟩ := hrel
      by_cases h : i < j
      · have hlt : (i : Int) < (j : Int) := by omega
        obtain ⟨k, hk⟩ : ∃ k : Nat, ((i : Int) + (j : Int)) / 2 = (k : Int) := ⟨(i + j) / 2, by omega⟩
        have hki : i ≤ k := by omega
        have hkj : k < j := by omega
        go_wp2_with fail
        try simp only [hk]
        clear hk
        obtain ⟨Z, hZ⟩ : ∃ Z : Nat, Z + k = P := ⟨P - k, by omega⟩
        have j4 : IntKind.i64.wrap ((P : Int) - (k : Int)) = (P : Int) - (k : Int) := by rw [IntKind.wrap_i64]; omega
        obtain ⟨x1, x2, x3⟩ := hR.at (i := Z) (by omega)
        obtain ⟨y1, y2, y3⟩ := hR.at (i := k) (by omega)
        have hC := fun W => bySite_any (L.getD (Z) .z0) (L.getD (k) .z0) W
        generalize L.getD (Z) .z0 = X at *
        generalize L.getD (k) .z0 = Y at *
        obtain ⟨Xn, Xs, Xf⟩ := X
        obtain ⟨Yn, Ys, Yf⟩ := Y
        dsimp only at x1 x2 x3 y1 y2 y3 hC
        have k1 := cell_regrown x1
        have k2 := cell_regrown x2
        have k3 := cell_regrown x3
        have l1 := cell_regrown y1
        have l2 := cell_regrown y2
        have l3 := cell_regrown y3
        have i1 : (k : Int) < (n : Int) := by omega
        have i2 : (a : Int) < (n : Int) := by omega
        have i3 : (m : Int) < (n : Int) := by omega
        have j1 : (P : Int) - (k : Int) < (n : Int) := by omega
        have j2 : (0 : Int) ≤ (P : Int) - (k : Int) := by omega
        have j3 : ((P : Int) - (k : Int)).toNat = Z := by omega
        have j6 : (k : Int) ≤ (P : Int) := by omega
        have j7 : P - k = Z := by omega
        have j8 : (P : Int) < (n : Int) + (k : Int) := by omega
        have cC : ∀ d os, Calls Tryd.prog 67 #[.agg #[.int .i64 Xn, .int .i64 Xs, .bool Xf], .agg #[.int .i64 Yn, .int .i64 Ys, .bool Yf]] (Sort.grow (redrawn wr d) os) fun e w'' => e = .returned (.int .i64 (cmpI Xs Ys)) ∧ ∃ p : Regrown, w'' = Sort.grow (redrawn wr p.d) p.os := fun d os => Calls.regrown_of (hC _)
        generalize cmpI Xs Ys = z at *
        clear hC
        refine wp_region_quiet_below (by kernel_rfl) (by kernel_rfl) ?_
        repeat (quiet_step (first | exact cC _ _))
        refine wpQuiet_nil ?_
        intro _ hw'
        obtain ⟨⟨dq, osq⟩, hw''⟩ := hw'
        subst hw''
        have hbq := below_regrown wr dq osq
        have hR2 := hR.up hbq
        have hb2 := hb.trans (Ex.of_below (g := g) hbq)
        clear k1 k2 k3 l1 l2 l3 x1 x2 x3 y1 y2 y3 cC hbq hR hb
        generalize Sort.grow (redrawn wr dq) osq = W2 at *
        by_cases hz : z < 0
        · have hzd : decide (z < 0) = true := decide_eq_true hz
          try simp only [hzd]
          try simp only [Bool.not_true]
          clear hzd hz
          go_wp2_with fail
          go_roundw
          case rel => exact ⟨i, k, by omega, by omega, by omega, by first | rfl | go_num | (congr 1; omega), by first | rfl | go_num | (congr 1; omega), hR2, hb2⟩
          case measure => simp [intOf] <;> omega
        · have hzd : decide (z < 0) = false := decide_eq_false hz
          try simp only [hzd]
          try simp only [Bool.not_false]
          clear hzd hz
          go_wp2_with fail
          go_roundw
          case rel => exact ⟨k + 1, j, by omega, by omega, by omega, by first | rfl | go_num | (congr 1; omega), by first | rfl | go_num | (congr 1; omega), hR2, hb2⟩
          case measure => simp [intOf] <;> omega
      · have hge : ¬ (i : Int) < (j : Int) := by omega
        obtain ⟨W1, hW1⟩ : ∃ x, x = wr := ⟨wr, rfl⟩
        rw [← hW1] at hR hb ⊢
        clear hW1
        obtain ⟨E, hE⟩ : ∃ E : Nat, (d : Int) + (m : Int) - (i : Int) = (E : Int) := ⟨d + m - i, by omega⟩
        have hEn : E + i = d + m := by omega
        have wE : IntKind.i64.wrap (d + m - i : Int) = (E : Int) := by rw [IntKind.wrap_i64]; omega
        by_cases c1 : i < m
        · have g1 : (i : Int) < (m : Int) := by omega
          by_cases c2 : m < E
          · have g2 : (m : Int) < (E : Int) := by omega
            have hI := rotate_any W1 g N L i m E hR (by omega) (by omega) (by omega) (by omega)
            rw [hL] at hI
            go_wp2_with fail
            refine hI.mono ?_
            rintro r W7 ⟨rfl, M7, hM7, hR7, hb7⟩
            have hB7 := Ex.trans hb hb7
            by_cases c1 : a < i
            · have g1 : (a : Int) < (i : Int) := by omega
              by_cases c2 : i < d
              · have g2 : (i : Int) < (d : Int) := by omega
                have hI := IH W7 M7 a i d (by omega) hR7 hM7 (by omega) (by omega) (by omega)
                go_wp2_with fail
                refine hI.mono ?_
                rintro r W8 ⟨rfl, M8, hM8, hR8, hb8⟩
                have hB8 := Ex.trans hB7 hb8
                by_cases c1s : d < E
                · have g1s : (d : Int) < (E : Int) := by omega
                  by_cases c2s : E < b
                  · have g2s : (E : Int) < (b : Int) := by omega
                    have hI := IH W8 M8 d E b (by omega) hR8 hM8 (by omega) (by omega) (by omega)
                    go_wp2_with fail
                    refine hI.mono ?_
                    rintro r W9 ⟨rfl, M9, hM9, hR9, hb9⟩
                    go_wp2_with fail
                    go_end0
                    exact ⟨rfl, M9, hM9, hR9, Ex.trans hB8 hb9⟩
                  · have g2s : ¬ (E : Int) < (b : Int) := by omega
                    go_wp2_with fail
                    go_end0
                    exact ⟨rfl, M8, hM8, hR8, hB8⟩
                · have g1s : ¬ (d : Int) < (E : Int) := by omega
                  go_wp2_with fail
                  go_end0
                  exact ⟨rfl, M8, hM8, hR8, hB8⟩
              · have g2 : ¬ (i : Int) < (d : Int) := by omega
                by_cases c1s : d < E
                · have g1s : (d : Int) < (E : Int) := by omega
                  by_cases c2s : E < b
                  · have g2s : (E : Int) < (b : Int) := by omega
                    have hI := IH W7 M7 d E b (by omega) hR7 hM7 (by omega) (by omega) (by omega)
                    go_wp2_with fail
                    refine hI.mono ?_
                    rintro r W9 ⟨rfl, M9, hM9, hR9, hb9⟩
                    go_wp2_with fail
                    go_end0
                    exact ⟨rfl, M9, hM9, hR9, Ex.trans hB7 hb9⟩
                  · have g2s : ¬ (E : Int) < (b : Int) := by omega
                    go_wp2_with fail
                    go_end0
                    exact ⟨rfl, M7, hM7, hR7, hB7⟩
                · have g1s : ¬ (d : Int) < (E : Int) := by omega
                  go_wp2_with fail
                  go_end0
                  exact ⟨rfl, M7, hM7, hR7, hB7⟩
            · have g1 : ¬ (a : Int) < (i : Int) := by omega
              by_cases c1s : d < E
              · have g1s : (d : Int) < (E : Int) := by omega
                by_cases c2s : E < b
                · have g2s : (E : Int) < (b : Int) := by omega
                  have hI := IH W7 M7 d E b (by omega) hR7 hM7 (by omega) (by omega) (by omega)
                  go_wp2_with fail
                  refine hI.mono ?_
                  rintro r W9 ⟨rfl, M9, hM9, hR9, hb9⟩
                  go_wp2_with fail
                  go_end0
                  exact ⟨rfl, M9, hM9, hR9, Ex.trans hB7 hb9⟩
                · have g2s : ¬ (E : Int) < (b : Int) := by omega
                  go_wp2_with fail
                  go_end0
                  exact ⟨rfl, M7, hM7, hR7, hB7⟩
              · have g1s : ¬ (d : Int) < (E : Int) := by omega
                go_wp2_with fail
                go_end0
                exact ⟨rfl, M7, hM7, hR7, hB7⟩
          · have g2 : ¬ (m : Int) < (E : Int) := by omega
            by_cases c1 : a < i
            · have g1 : (a : Int) < (i : Int) := by omega
              by_cases c2 : i < d
              · have g2 : (i : Int) < (d : Int) := by omega
                have hI := IH W1 L a i d (by omega) hR hL (by omega) (by omega) (by omega)
                go_wp2_with fail
                refine hI.mono ?_
                rintro r W8 ⟨rfl, M8, hM8, hR8, hb8⟩
                have hB8 := Ex.trans hb hb8
                by_cases c1s : d < E
                · have g1s : (d : Int) < (E : Int) := by omega
                  by_cases c2s : E < b
                  · have g2s : (E : Int) < (b : Int) := by omega
                    have hI := IH W8 M8 d E b (by omega) hR8 hM8 (by omega) (by omega) (by omega)
                    go_wp2_with fail
                    refine hI.mono ?_
                    rintro r W9 ⟨rfl, M9, hM9, hR9, hb9⟩
                    go_wp2_with fail
                    go_end0
                    exact ⟨rfl, M9, hM9, hR9, Ex.trans hB8 hb9⟩
                  · have g2s : ¬ (E : Int) < (b : Int) := by omega
                    go_wp2_with fail
                    go_end0
                    exact ⟨rfl, M8, hM8, hR8, hB8⟩
                · have g1s : ¬ (d : Int) < (E : Int) := by omega
                  go_wp2_with fail
                  go_end0
                  exact ⟨rfl, M8, hM8, hR8, hB8⟩
              · have g2 : ¬ (i : Int) < (d : Int) := by omega
                by_cases c1s : d < E
                · have g1s : (d : Int) < (E : Int) := by omega
                  by_cases c2s : E < b
                  · have g2s : (E : Int) < (b : Int) := by omega
                    have hI := IH W1 L d E b (by omega) hR hL (by omega) (by omega) (by omega)
                    go_wp2_with fail
                    refine hI.mono ?_
                    rintro r W9 ⟨rfl, M9, hM9, hR9, hb9⟩
                    go_wp2_with fail
                    go_end0
                    exact ⟨rfl, M9, hM9, hR9, Ex.trans hb hb9⟩
                  · have g2s : ¬ (E : Int) < (b : Int) := by omega
                    go_wp2_with fail
                    go_end0
                    exact ⟨rfl, L, hL, hR, hb⟩
                · have g1s : ¬ (d : Int) < (E : Int) := by omega
                  go_wp2_with fail
                  go_end0
                  exact ⟨rfl, L, hL, hR, hb⟩
            · have g1 : ¬ (a : Int) < (i : Int) := by omega
              by_cases c1s : d < E
              · have g1s : (d : Int) < (E : Int) := by omega
                by_cases c2s : E < b
                · have g2s : (E : Int) < (b : Int) := by omega
                  have hI := IH W1 L d E b (by omega) hR hL (by omega) (by omega) (by omega)
                  go_wp2_with fail
                  refine hI.mono ?_
                  rintro r W9 ⟨rfl, M9, hM9, hR9, hb9⟩
                  go_wp2_with fail
                  go_end0
                  exact ⟨rfl, M9, hM9, hR9, Ex.trans hb hb9⟩
                · have g2s : ¬ (E : Int) < (b : Int) := by omega
                  go_wp2_with fail
                  go_end0
                  exact ⟨rfl, L, hL, hR, hb⟩
              · have g1s : ¬ (d : Int) < (E : Int) := by omega
                go_wp2_with fail
                go_end0
                exact ⟨rfl, L, hL, hR, hb⟩
        · have g1 : ¬ (i : Int) < (m : Int) := by omega
          by_cases c1 : a < i
          · have g1 : (a : Int) < (i : Int) := by omega
            by_cases c2 : i < d
            · have g2 : (i : Int) < (d : Int) := by omega
              have hI := IH W1 L a i d (by omega) hR hL (by omega) (by omega) (by omega)
              go_wp2_with fail
              refine hI.mono ?_
              rintro r W8 ⟨rfl, M8, hM8, hR8, hb8⟩
              have hB8 := Ex.trans hb hb8
              by_cases c1s : d < E
              · have g1s : (d : Int) < (E : Int) := by omega
                by_cases c2s : E < b
                · have g2s : (E : Int) < (b : Int) := by omega
                  have hI := IH W8 M8 d E b (by omega) hR8 hM8 (by omega) (by omega) (by omega)
                  go_wp2_with fail
                  refine hI.mono ?_
                  rintro r W9 ⟨rfl, M9, hM9, hR9, hb9⟩
                  go_wp2_with fail
                  go_end0
                  exact ⟨rfl, M9, hM9, hR9, Ex.trans hB8 hb9⟩
                · have g2s : ¬ (E : Int) < (b : Int) := by omega
                  go_wp2_with fail
                  go_end0
                  exact ⟨rfl, M8, hM8, hR8, hB8⟩
              · have g1s : ¬ (d : Int) < (E : Int) := by omega
                go_wp2_with fail
                go_end0
                exact ⟨rfl, M8, hM8, hR8, hB8⟩
            · have g2 : ¬ (i : Int) < (d : Int) := by omega
              by_cases c1s : d < E
              · have g1s : (d : Int) < (E : Int) := by omega
                by_cases c2s : E < b
                · have g2s : (E : Int) < (b : Int) := by omega
                  have hI := IH W1 L d E b (by omega) hR hL (by omega) (by omega) (by omega)
                  go_wp2_with fail
                  refine hI.mono ?_
                  rintro r W9 ⟨rfl, M9, hM9, hR9, hb9⟩
                  go_wp2_with fail
                  go_end0
                  exact ⟨rfl, M9, hM9, hR9, Ex.trans hb hb9⟩
                · have g2s : ¬ (E : Int) < (b : Int) := by omega
                  go_wp2_with fail
                  go_end0
                  exact ⟨rfl, L, hL, hR, hb⟩
              · have g1s : ¬ (d : Int) < (E : Int) := by omega
                go_wp2_with fail
                go_end0
                exact ⟨rfl, L, hL, hR, hb⟩
          · have g1 : ¬ (a : Int) < (i : Int) := by omega
            by_cases c1s : d < E
            · have g1s : (d : Int) < (E : Int) := by omega
              by_cases c2s : E < b
              · have g2s : (E : Int) < (b : Int) := by omega
                have hI := IH W1 L d E b (by omega) hR hL (by omega) (by omega) (by omega)
                go_wp2_with fail
                refine hI.mono ?_
                rintro r W9 ⟨rfl, M9, hM9, hR9, hb9⟩
                go_wp2_with fail
                go_end0
                exact ⟨rfl, M9, hM9, hR9, Ex.trans hb hb9⟩
              · have g2s : ¬ (E : Int) < (b : Int) := by omega
                go_wp2_with fail
                go_end0
                exact ⟨rfl, L, hL, hR, hb⟩
            · have g1s : ¬ (d : Int) < (E : Int) := by omega
              go_wp2_with fail
              go_end0
              exact ⟨rfl, L, hL, hR, hb⟩
  · have hmi : ¬ (d : Int) < (m : Int) := by omega
    go_wp2_with fail
    clear hd hP
    go_loopw [20, 21, 23] (fun x y _ wr => ∃ (i j : Nat), a ≤ i ∧ i ≤ j ∧ j ≤ m ∧ x = .int .i64 i ∧ y = .int .i64 j ∧ Row wr g N L ∧ Ex g w wr) (fun x y _ _ => (intOf y).toNat - (intOf x).toNat)
    case atStart => exact ⟨a, m, by omega, by omega, by omega, by first | rfl | go_num | (congr 1; omega), by first | rfl | go_num | (congr 1; omega), hR, Ex.refl _ _⟩
    case round =>
      clear hR
      obtain ⟨i, j, hi, hij, hj, rfl, rfl, hR, hb⟩ := hrel
      by_cases h : i < j
      · have hlt : (i : Int) < (j : Int) := by omega
        obtain ⟨k, hk⟩ : ∃ k : Nat, ((i : Int) + (j : Int)) / 2 = (k : Int) := ⟨(i + j) / 2, by omega⟩
        have hki : i ≤ k := by omega
        have hkj : k < j := by omega
        go_wp2_with fail
        try simp only [hk]
        clear hk
        obtain ⟨Z, hZ⟩ : ∃ Z : Nat, Z + k = P := ⟨P - k, by omega⟩
        have j4 : IntKind.i64.wrap ((P : Int) - (k : Int)) = (P : Int) - (k : Int) := by rw [IntKind.wrap_i64]; omega
        obtain ⟨x1, x2, x3⟩ := hR.at (i := Z) (by omega)
        obtain ⟨y1, y2, y3⟩ := hR.at (i := k) (by omega)
        have hC := fun W => bySite_any (L.getD (Z) .z0) (L.getD (k) .z0) W
        generalize L.getD (Z) .z0 = X at *
        generalize L.getD (k) .z0 = Y at *
        obtain ⟨Xn, Xs, Xf⟩ := X
        obtain ⟨Yn, Ys, Yf⟩ := Y
        dsimp only at x1 x2 x3 y1 y2 y3 hC
        have k1 := cell_regrown x1
        have k2 := cell_regrown x2
        have k3 := cell_regrown x3
        have l1 := cell_regrown y1
        have l2 := cell_regrown y2
        have l3 := cell_regrown y3
        have i1 : (k : Int) < (n : Int) := by omega
        have i2 : (a : Int) < (n : Int) := by omega
        have i3 : (m : Int) < (n : Int) := by omega
        have j1 : (P : Int) - (k : Int) < (n : Int) := by omega
        have j2 : (0 : Int) ≤ (P : Int) - (k : Int) := by omega
        have j3 : ((P : Int) - (k : Int)).toNat = Z := by omega
        have j6 : (k : Int) ≤ (P : Int) := by omega
        have j7 : P - k = Z := by omega
        have j8 : (P : Int) < (n : Int) + (k : Int) := by omega
        have cC : ∀ d os, Calls Tryd.prog 67 #[.agg #[.int .i64 Xn, .int .i64 Xs, .bool Xf], .agg #[.int .i64 Yn, .int .i64 Ys, .bool Yf]] (Sort.grow (redrawn wr d) os) fun e w'' => e = .returned (.int .i64 (cmpI Xs Ys)) ∧ ∃ p : Regrown, w'' = Sort.grow (redrawn wr p.d) p.os := fun d os => Calls.regrown_of (hC _)
        generalize cmpI Xs Ys = z at *
        clear hC
        refine wp_region_quiet_below (by kernel_rfl) (by kernel_rfl) ?_
        repeat (quiet_step (first | exact cC _ _))
        refine wpQuiet_nil ?_
        intro _ hw'
        obtain ⟨⟨dq, osq⟩, hw''⟩ := hw'
        subst hw''
        have hbq := below_regrown wr dq osq
        have hR2 := hR.up hbq
        have hb2 := hb.trans (Ex.of_below (g := g) hbq)
        clear k1 k2 k3 l1 l2 l3 x1 x2 x3 y1 y2 y3 cC hbq hR hb
        generalize Sort.grow (redrawn wr dq) osq = W2 at *
        by_cases hz : z < 0
        · have hzd : decide (z < 0) = true := decide_eq_true hz
          try simp only [hzd]
          try simp only [Bool.not_true]
          clear hzd hz
          go_wp2_with fail
          go_roundw
          case rel => exact ⟨i, k, by omega, by omega, by omega, by first | rfl | go_num | (congr 1; omega), by first | rfl | go_num | (congr 1; omega), hR2, hb2⟩
          case measure => simp [intOf] <;> omega
        · have hzd : decide (z < 0) = false := decide_eq_false hz
          try simp only [hzd]
          try simp only [Bool.not_false]
          clear hzd hz
          go_wp2_with fail
          go_roundw
          case rel => exact ⟨k + 1, j, by omega, by omega, by omega, by first | rfl | go_num | (congr 1; omega), by first | rfl | go_num | (congr 1; omega), hR2, hb2⟩
          case measure => simp [intOf] <;> omega
      · have hge : ¬ (i : Int) < (j : Int) := by omega
        obtain ⟨W1, hW1⟩ : ∃ x, x = wr := ⟨wr, rfl⟩
        rw [← hW1] at hR hb ⊢
        clear hW1
        obtain ⟨E, hE⟩ : ∃ E : Nat, (d : Int) + (m : Int) - (i : Int) = (E : Int) := ⟨d + m - i, by omega⟩
        have hEn : E + i = d + m := by omega
        have wE : IntKind.i64.wrap (d + m - i : Int) = (E : Int) := by rw [IntKind.wrap_i64]; omega
        by_cases c1 : i < m
        · have g1 : (i : Int) < (m : Int) := by omega
          by_cases c2 : m < E
          · have g2 : (m : Int) < (E : Int) := by omega
            have hI := rotate_any W1 g N L i m E hR (by omega) (by omega) (by omega) (by omega)
            rw [hL] at hI
            go_wp2_with fail
            refine hI.mono ?_
            rintro r W7 ⟨rfl, M7, hM7, hR7, hb7⟩
            have hB7 := Ex.trans hb hb7
            by_cases c1 : a < i
            · have g1 : (a : Int) < (i : Int) := by omega
              by_cases c2 : i < d
              · have g2 : (i : Int) < (d : Int) := by omega
                have hI := IH W7 M7 a i d (by omega) hR7 hM7 (by omega) (by omega) (by omega)
                go_wp2_with fail
                refine hI.mono ?_
                rintro r W8 ⟨rfl, M8, hM8, hR8, hb8⟩
                have hB8 := Ex.trans hB7 hb8
                by_cases c1s : d < E
                · have g1s : (d : Int) < (E : Int) := by omega
                  by_cases c2s : E < b
                  · have g2s : (E : Int) < (b : Int) := by omega
                    have hI := IH W8 M8 d E b (by omega) hR8 hM8 (by omega) (by omega) (by omega)
                    go_wp2_with fail
                    refine hI.mono ?_
                    rintro r W9 ⟨rfl, M9, hM9, hR9, hb9⟩
                    go_wp2_with fail
                    go_end0
                    exact ⟨rfl, M9, hM9, hR9, Ex.trans hB8 hb9⟩
                  · have g2s : ¬ (E : Int) < (b : Int) := by omega
                    go_wp2_with fail
                    go_end0
                    exact ⟨rfl, M8, hM8, hR8, hB8⟩
                · have g1s : ¬ (d : Int) < (E : Int) := by omega
                  go_wp2_with fail
                  go_end0
                  exact ⟨rfl, M8, hM8, hR8, hB8⟩
              · have g2 : ¬ (i : Int) < (d : Int) := by omega
                by_cases c1s : d < E
                · have g1s : (d : Int) < (E : Int) := by omega
                  by_cases c2s : E < b
                  · have g2s : (E : Int) < (b : Int) := by omega
                    have hI := IH W7 M7 d E b (by omega) hR7 hM7 (by omega) (by omega) (by omega)
                    go_wp2_with fail
                    refine hI.mono ?_
                    rintro r W9 ⟨rfl, M9, hM9, hR9, hb9⟩
                    go_wp2_with fail
                    go_end0
                    exact ⟨rfl, M9, hM9, hR9, Ex.trans hB7 hb9⟩
                  · have g2s : ¬ (E : Int) < (b : Int) := by omega
                    go_wp2_with fail
                    go_end0
                    exact ⟨rfl, M7, hM7, hR7, hB7⟩
                · have g1s : ¬ (d : Int) < (E : Int) := by omega
                  go_wp2_with fail
                  go_end0
                  exact ⟨rfl, M7, hM7, hR7, hB7⟩
            · have g1 : ¬ (a : Int) < (i : Int) := by omega
              by_cases c1s : d < E
              · have g1s : (d : Int) < (E : Int) := by omega
                by_cases c2s : E < b
                · have g2s : (E : Int) < (b : Int) := by omega
                  have hI := IH W7 M7 d E b (by omega) hR7 hM7 (by omega) (by omega) (by omega)
                  go_wp2_with fail
                  refine hI.mono ?_
                  rintro r W9 ⟨rfl, M9, hM9, hR9, hb9⟩
                  go_wp2_with fail
                  go_end0
                  exact ⟨rfl, M9, hM9, hR9, Ex.trans hB7 hb9⟩
                · have g2s : ¬ (E : Int) < (b : Int) := by omega
                  go_wp2_with fail
                  go_end0
                  exact ⟨rfl, M7, hM7, hR7, hB7⟩
              · have g1s : ¬ (d : Int) < (E : Int) := by omega
                go_wp2_with fail
                go_end0
                exact ⟨rfl, M7, hM7, hR7, hB7⟩
          · have g2 : ¬ (m : Int) < (E : Int) := by omega
            by_cases c1 : a < i
            · have g1 : (a : Int) < (i : Int) := by omega
              by_cases c2 : i < d
              · have g2 : (i : Int) < (d : Int) := by omega
                have hI := IH W1 L a i d (by omega) hR hL (by omega) (by omega) (by omega)
                go_wp2_with fail
                refine hI.mono ?_
                rintro r W8 ⟨rfl, M8, hM8, hR8, hb8⟩
                have hB8 := Ex.trans hb hb8
                by_cases c1s : d < E
                · have g1s : (d : Int) < (E : Int) := by omega
                  by_cases c2s : E < b
                  · have g2s : (E : Int) < (b : Int) := by omega
                    have hI := IH W8 M8 d E b (by omega) hR8 hM8 (by omega) (by omega) (by omega)
                    go_wp2_with fail
                    refine hI.mono ?_
                    rintro r W9 ⟨rfl, M9, hM9, hR9, hb9⟩
                    go_wp2_with fail
                    go_end0
                    exact ⟨rfl, M9, hM9, hR9, Ex.trans hB8 hb9⟩
                  · have g2s : ¬ (E : Int) < (b : Int) := by omega
                    go_wp2_with fail
                    go_end0
                    exact ⟨rfl, M8, hM8, hR8, hB8⟩
                · have g1s : ¬ (d : Int) < (E : Int) := by omega
                  go_wp2_with fail
                  go_end0
                  exact ⟨rfl, M8, hM8, hR8, hB8⟩
              · have g2 : ¬ (i : Int) < (d : Int) := by omega
                by_cases c1s : d < E
                · have g1s : (d : Int) < (E : Int) := by omega
                  by_cases c2s : E < b
                  · have g2s : (E : Int) < (b : Int) := by omega
                    have hI := IH W1 L d E b (by omega) hR hL (by omega) (by omega) (by omega)
                    go_wp2_with fail
                    refine hI.mono ?_
                    rintro r W9 ⟨rfl, M9, hM9, hR9, hb9⟩
                    go_wp2_with fail
                    go_end0
                    exact ⟨rfl, M9, hM9, hR9, Ex.trans hb hb9⟩
                  · have g2s : ¬ (E : Int) < (b : Int) := by omega
                    go_wp2_with fail
                    go_end0
                    exact ⟨rfl, L, hL, hR, hb⟩
                · have g1s : ¬ (d : Int) < (E : Int) := by omega
                  go_wp2_with fail
                  go_end0
                  exact ⟨rfl, L, hL, hR, hb⟩
            · have g1 : ¬ (a : Int) < (i : Int) := by omega
              by_cases c1s : d < E
              · have g1s : (d : Int) < (E : Int) := by omega
                by_cases c2s : E < b
                · have g2s : (E : Int) < (b : Int) := by omega
                  have hI := IH W1 L d E b (by omega) hR hL (by omega) (by omega) (by omega)
                  go_wp2_with fail
                  refine hI.mono ?_
                  rintro r W9 ⟨rfl, M9, hM9, hR9, hb9⟩
                  go_wp2_with fail
                  go_end0
                  exact ⟨rfl, M9, hM9, hR9, Ex.trans hb hb9⟩
                · have g2s : ¬ (E : Int) < (b : Int) := by omega
                  go_wp2_with fail
                  go_end0
                  exact ⟨rfl, L, hL, hR, hb⟩
              · have g1s : ¬ (d : Int) < (E : Int) := by omega
                go_wp2_with fail
                go_end0
                exact ⟨rfl, L, hL, hR, hb⟩
        · have g1 : ¬ (i : Int) < (m : Int) := by omega
          by_cases c1 : a < i
          · have g1 : (a : Int) < (i : Int) := by omega
            by_cases c2 : i < d
            · have g2 : (i : Int) < (d : Int) := by omega
              have hI := IH W1 L a i d (by omega) hR hL (by omega) (by omega) (by omega)
              go_wp2_with fail
              refine hI.mono ?_
              rintro r W8 ⟨rfl, M8, hM8, hR8, hb8⟩
              have hB8 := Ex.trans hb hb8
              by_cases c1s : d < E
              · have g1s : (d : Int) < (E : Int) := by omega
                by_cases c2s : E < b
                · have g2s : (E : Int) < (b : Int) := by omega
                  have hI := IH W8 M8 d E b (by omega) hR8 hM8 (by omega) (by omega) (by omega)
                  go_wp2_with fail
                  refine hI.mono ?_
                  rintro r W9 ⟨rfl, M9, hM9, hR9, hb9⟩
                  go_wp2_with fail
                  go_end0
                  exact ⟨rfl, M9, hM9, hR9, Ex.trans hB8 hb9⟩
                · have g2s : ¬ (E : Int) < (b : Int) := by omega
                  go_wp2_with fail
                  go_end0
                  exact ⟨rfl, M8, hM8, hR8, hB8⟩
              · have g1s : ¬ (d : Int) < (E : Int) := by omega
                go_wp2_with fail
                go_end0
                exact ⟨rfl, M8, hM8, hR8, hB8⟩
            · have g2 : ¬ (i : Int) < (d : Int) := by omega
              by_cases c1s : d < E
              · have g1s : (d : Int) < (E : Int) := by omega
                by_cases c2s : E < b
                · have g2s : (E : Int) < (b : Int) := by omega
                  have hI := IH W1 L d E b (by omega) hR hL (by omega) (by omega) (by omega)
                  go_wp2_with fail
                  refine hI.mono ?_
                  rintro r W9 ⟨rfl, M9, hM9, hR9, hb9⟩
                  go_wp2_with fail
                  go_end0
                  exact ⟨rfl, M9, hM9, hR9, Ex.trans hb hb9⟩
                · have g2s : ¬ (E : Int) < (b : Int) := by omega
                  go_wp2_with fail
                  go_end0
                  exact ⟨rfl, L, hL, hR, hb⟩
              · have g1s : ¬ (d : Int) < (E : Int) := by omega
                go_wp2_with fail
                go_end0
                exact ⟨rfl, L, hL, hR, hb⟩
          · have g1 : ¬ (a : Int) < (i : Int) := by omega
            by_cases c1s : d < E
            · have g1s : (d : Int) < (E : Int) := by omega
              by_cases c2s : E < b
              · have g2s : (E : Int) < (b : Int) := by omega
                have hI := IH W1 L d E b (by omega) hR hL (by omega) (by omega) (by omega)
                go_wp2_with fail
                refine hI.mono ?_
                rintro r W9 ⟨rfl, M9, hM9, hR9, hb9⟩
                go_wp2_with fail
                go_end0
                exact ⟨rfl, M9, hM9, hR9, Ex.trans hb hb9⟩
              · have g2s : ¬ (E : Int) < (b : Int) := by omega
                go_wp2_with fail
                go_end0
                exact ⟨rfl, L, hL, hR, hb⟩
            · have g1s : ¬ (d : Int) < (E : Int) := by omega
              go_wp2_with fail
              go_end0
              exact ⟨rfl, L, hL, hR, hb⟩

theorem symMerge_any (g N n : Nat) (hn : n ≤ 1099511627776) : ∀ (s : Nat) (w : World) (L : List Mb) (a m b : Nat), b - a ≤ s → Row w g N L → L.length = n → a < m → m < b → b ≤ n →
    Calls Tryd.prog 97 #[.slice (some ⟨g, 0, none⟩) n N, .int .i64 a, .int .i64 m, .int .i64 b, .func (.func 67) #[] #[]] w fun e w' => e = .returned (.tuple #[]) ∧ ∃ M, M.length = n ∧ Row w' g N M ∧ Ex g w w'
  | 0, _, _, _, _, _, h, _, _, h1, h2, _ => absurd h (by omega)
  | s + 1, w, L, a, m, b, hs, hR, hL, ham, hmb, hbn => by
    by_cases hma : m = a + 1
    · exact merge_one g N n hn w L a m b hR hL hma hmb hbn
    · by_cases hbm : b = m + 1
      · exact merge_two g N n hn w L a m b hR hL hma ham hbm hbn
      · exact merge_rest g N n hn s w L a m b hs hR hL hma ham hbm hmb hbn (symMerge_any g N n hn s)

end Go.Proofs.YtigojnpjpagfjaaDoor.M

namespace Go.Proofs.YtigojnpjpagfjaaDoor.M
open Go.ChangeShapes Go.WideShapes Go.ChangeAt Go.RowKit

theorem insertion_len (w : World) (g N n : Nat) (L : List Mb) (a b : Nat) (hR : Row w g N L) (hL : L.length = n) (hab : a ≤ b) (hbn : b ≤ n) (hn : n ≤ 1099511627776) :
    Calls Tryd.prog 96 #[.slice (some ⟨g, 0, none⟩) n N, .int .i64 a, .int .i64 b, .func (.func 67) #[] #[]] w fun e w' => e = .returned (.tuple #[]) ∧ ∃ M, M.length = n ∧ Row w' g N M ∧ Ex g w w' := by
  have h := insertion_any w g N L a b hR hab (by omega) (by omega)
  rw [hL] at h
  exact h.mono fun _ _ hh => ⟨hh.1, _, by rw [outS_len]; exact hL, hh.2⟩

set_option maxRecDepth 20000 in
set_option maxHeartbeats 2000000 in
theorem stable_many (w : World) (g N n : Nat) (L : List Mb) (hR : Row w g N L) (hL : L.length = n) (hn : n ≤ 1099511627776) :
    Calls Tryd.prog 82 #[.slice (some ⟨g, 0, none⟩) n N, .int .i64 n, .func (.func 67) #[] #[]] w fun e w' => e = .returned (.tuple #[]) ∧ ∃ M, M.length = n ∧ Row w' g N M ∧ Ex g w w' := by
  go_enter Tryd.func82, Tryd.ntmps82
  go_wp2_with fail
  go_loopw [7, 8] (fun u v wr => ∃ (k : Nat) (M : List Mb), k ≤ n ∧ u = .int .i64 k ∧ v = .int .i64 (k + 20 : Nat) ∧ M.length = n ∧ Row wr g N M ∧ Ex g w wr) (fun u _ _ => n - (intOf u).toNat)
  case atStart => exact ⟨0, L, Nat.zero_le _, by first | rfl | go_num, by first | rfl | go_num, hL, hR, Ex.refl _ _⟩
  case round =>
    clear hR hL
    obtain ⟨k, M, hk, rfl, rfl, hM, hR, hb⟩ := hrel
    by_cases h : k + 20 ≤ n
    · have h1 : (k : Int) + 20 ≤ (n : Int) := by omega
      have hI := insertion_len wr g N n M k (k + 20) hR hM (by omega) h hn
      have e1 : ((k + 20 : Nat) : Int) = (k : Int) + 20 := by omega
      rw [e1] at hI ⊢
      clear e1
      go_wp2_with fail
      refine hI.mono ?_
      rintro r w1 ⟨rfl, M1, hM1, hR1, hb1⟩
      go_wp2_with fail
      go_roundw
      case rel => exact ⟨k + 20, M1, h, by first | rfl | go_num | (congr 1; omega), by first | rfl | go_num | (congr 1; omega), hM1, hR1, hb.trans hb1⟩
      case measure => simp [intOf] <;> omega
    · have h1 : ¬ (k : Int) + 20 ≤ (n : Int) := by omega
      have hI := insertion_len wr g N n M k n hR hM hk (Nat.le_refl _) hn
      have e1 : ((k + 20 : Nat) : Int) = (k : Int) + 20 := by omega
      rw [e1]
      clear e1
      go_wp2_with fail
      refine hI.mono ?_
      rintro r w1 ⟨rfl, M1, hM1, hR1, hb1⟩
      have hb2 := hb.trans hb1
      clear hI hR hb hb1 hM
      go_wp2_with fail
      go_loopw [6, 7, 8, 9] (fun z _ _ _ wr => ∃ (s : Nat) (M : List Mb), 0 < s ∧ s ≤ 2 * n + 20 ∧ z = .int .i64 s ∧ M.length = n ∧ Row wr g N M ∧ Ex g w wr) (fun z _ _ _ _ => n - (intOf z).toNat)
      case atStart => exact ⟨20, M1, by omega, by omega, by first | rfl | go_num, hM1, hR1, hb2⟩
      case round =>
        clear hR1 hM1 hb2
        obtain ⟨s, M, hs0, hs1, rfl, hM, hR, hb⟩ := hrel
        by_cases hs : s < n
        · have hsi : (s : Int) < (n : Int) := by omega
          have w2 : IntKind.i64.wrap (2 * (s : Int)) = 2 * (s : Int) := by rw [IntKind.wrap_i64]; omega
          obtain ⟨w5, hw5⟩ : ∃ x, x = wr := ⟨wr, rfl⟩
          rw [← hw5] at hR hb ⊢
          clear hw5
          go_wp2_with fail
          go_loopw [7, 8] (fun u v wr => ∃ (k : Nat) (M : List Mb), k ≤ n ∧ u = .int .i64 k ∧ v = .int .i64 (k + 2 * s : Nat) ∧ M.length = n ∧ Row wr g N M ∧ Ex g w wr) (fun u _ _ => n - (intOf u).toNat)
          case atStart => exact ⟨0, M, Nat.zero_le _, by first | rfl | go_num, by first | rfl | go_num | (congr 1; omega), hM, hR, hb⟩
          case round =>
            clear hR hM hb
            obtain ⟨k, M, hk, rfl, rfl, hM, hR, hb⟩ := hrel
            have e1 : ((k + 2 * s : Nat) : Int) = (k : Int) + 2 * (s : Int) := by omega
            have e2 : IntKind.i64.wrap ((k : Int) + (s : Int)) = (k : Int) + (s : Int) := by rw [IntKind.wrap_i64]; omega
            by_cases h : k + 2 * s ≤ n
            · have h1 : (k : Int) + 2 * (s : Int) ≤ (n : Int) := by omega
              have hI := symMerge_any g N n hn (2 * s) wr M k (k + s) (k + 2 * s) (by omega) hR hM (by omega) (by omega) h
              have e3 : ((k + s : Nat) : Int) = (k : Int) + (s : Int) := by omega
              have e4 : IntKind.i64.wrap ((k : Int) + 2 * (s : Int) + 2 * (s : Int)) = (k : Int) + 2 * (s : Int) + 2 * (s : Int) := by rw [IntKind.wrap_i64]; omega
              rw [e1, e3] at hI
              rw [e1]
              clear e1 e3
              go_wp2_with fail
              refine hI.mono ?_
              rintro r w1 ⟨rfl, M1, hM1, hR1, hb1⟩
              go_wp2_with fail
              go_roundw
              case rel => exact ⟨k + 2 * s, M1, h, by first | rfl | go_num | (congr 1; omega), by first | rfl | go_num | (congr 1; omega), hM1, hR1, hb.trans hb1⟩
              case measure => simp [intOf] <;> omega
            · have h1 : ¬ (k : Int) + 2 * (s : Int) ≤ (n : Int) := by omega
              have w3 : IntKind.i64.wrap ((s : Int) * 2) = (s : Int) * 2 := by rw [IntKind.wrap_i64]; omega
              rw [e1]
              clear e1
              by_cases h2 : k + s < n
              · have h3 : (k : Int) + (s : Int) < (n : Int) := by omega
                have hI := symMerge_any g N n hn n wr M k (k + s) n (by omega) hR hM (by omega) h2 (Nat.le_refl _)
                have e3 : ((k + s : Nat) : Int) = (k : Int) + (s : Int) := by omega
                rw [e3] at hI
                clear e3
                go_wp2_with fail
                refine hI.mono ?_
                rintro r w1 ⟨rfl, M1, hM1, hR1, hb1⟩
                go_wp2_with fail
                go_roundw
                case rel => exact ⟨2 * s, M1, by omega, by omega, by first | rfl | go_num | (congr 1; omega), hM1, hR1, hb.trans hb1⟩
                case measure => simp [intOf] <;> omega
              · have h3 : ¬ (k : Int) + (s : Int) < (n : Int) := by omega
                go_wp2_with fail
                go_roundw
                case rel => exact ⟨2 * s, M, by omega, by omega, by first | rfl | go_num | (congr 1; omega), hM, hR, hb⟩
                case measure => simp [intOf] <;> omega
        · have hsi : ¬ (s : Int) < (n : Int) := by omega
          go_wp2_with fail
          go_end0
          exact ⟨rfl, M, hM, hR, hb⟩

set_option maxRecDepth 20000 in
theorem sort_many (w : World) (g N n : Nat) (L : List Mb) (hR : Row w g N L) (hL : L.length = n) (hn : n ≤ 1099511627776) :
    Calls Tryd.prog 66 #[.slice (some ⟨g, 0, none⟩) n N, .func (.func 67) #[] #[]] w fun e w' => e = .returned (.tuple #[]) ∧ ∃ M, M.length = n ∧ Row w' g N M ∧ Ex g w w' := by
  have hI := stable_many w g N n L hR hL hn
  clear hR
  go_enter Tryd.func66, Tryd.ntmps66
  go_wp2_with fail
  refine hI.mono ?_
  rintro r w1 ⟨rfl, M, hM, hR1, hb1⟩
  go_wp2_with fail
  go_end0
  exact ⟨rfl, M, hM, hR1, hb1⟩

end Go.Proofs.YtigojnpjpagfjaaDoor.M

namespace Go.Proofs.YtigojnpjpagfjaaDoor.M
open Go.ChangeShapes Go.WideShapes Go.ChangeAt Go.RowKit

set_option maxRecDepth 20000 in
set_option maxHeartbeats 2000000 in
theorem First_many (p : Option Addr) (n c : Nat) (ms : List Mb) (w : World) (hr : RdM w p n c ms) (hn : n ≤ 1099511627776) (h7 : 6 < n) :
    Calls Tryd.prog 48 #[.slice p n c] w fun r w' => ∃ v, r = .returned v ∧ Told w.heap.size w' v (.error 80) ∧ Below w.heap.size w w' := by
  have hb0 : Below w.heap.size w (w.alloc (.cells #[.int .i64 0, .slice none 0 0] 28)) := (Below.refl _ _).alloc (Nat.le_refl _) _
  have hl := hr.len
  have h0 : 0 < n := by omega
  have r0 : (w.alloc (.cells #[.int .i64 0, .slice none 0 0] 28)).heap[w.heap.size]? = some (.cells #[.int .i64 0, .slice none 0 0] 28) := heap_alloc_new _ _
  have hr0 := hr.below hb0
  have hs0 : w.heap.size < (w.alloc (.cells #[.int .i64 0, .slice none 0 0] 28)).heap.size := by simp
  have hC := containsF_any _ cfFresh #[] _ p n c ms _ hr0 (by omega) (asksFresh _)
  generalize ms.any (fun m => m.f) = q at *
  generalize hw : w.heap.size = b at *
  go_enter Tryd.func48, Tryd.ntmps48
  go_wp2_with fail
  generalize (w.alloc (.cells #[.int .i64 0, .slice none 0 0] 28)) = w0 at *
  refine hC.mono ?_
  rintro r w1 ⟨rfl, hb1⟩
  have hB1 := hb0.trans (hb1.mono (by omega))
  have r1 := (hb1.block b hs0).trans r0
  have hr1 := hr0.below hb1
  have hs1 : b < w1.heap.size := Nat.lt_of_lt_of_le hs0 hb1.size
  clear hC hr hr0 hb0 r0
  have b0 := cell_row r1 (j := 0) (v := .int .i64 0) rfl
  have b1 := cell_row r1 (j := 1) (v := .slice none 0 0) rfl
  have f0 := frozen_of_row w1 b 0 _ _ r1
  have f1 := frozen_of_row w1 b 1 _ _ r1
  cases q with
  | true =>
    have e0 : ((w1.setCell ⟨b, 0, none⟩ (.int .i64 0)).setCell ⟨b, 1, none⟩ (.slice none 0 0)).cell? ⟨b, 0, none⟩ = some (.int .i64 0) := by rw [World.cell?_setCell_other (h := by simp), World.cell?_setCell_same (h := b0)]
    have e1 : ((w1.setCell ⟨b, 0, none⟩ (.int .i64 0)).setCell ⟨b, 1, none⟩ (.slice none 0 0)).cell? ⟨b, 1, none⟩ = some (.slice none 0 0) := by
      have e2 : (w1.setCell ⟨b, 0, none⟩ (.int .i64 0)).cell? ⟨b, 1, none⟩ = some (.slice none 0 0) := by rw [World.cell?_setCell_other (h := by simp)]; exact b1
      rw [World.cell?_setCell_same (h := e2)]
    have hbb := Gr.putB hB1 (Nat.le_refl b) (.int .i64 0) (.slice none 0 0)
    go_wp2_with fail
    exact bodyPost_ret (results_chain (p := 2) (u := 3) rfl _ _ b _ _ rfl e0 e1) rfl ⟨_, rfl, rfl, hbb⟩
  | false =>
    have hCl := cloneM_any p n c ms w1 hr1 (by omega)
    go_wp2_with fail
    refine hCl.mono ?_
    rintro r w2 ⟨v2, rfl, hcp, hb2⟩
    obtain ⟨_, ho⟩ := hcp.resolve_left (fun h => by have := h.1; omega)
    obtain ⟨g, N, rfl, hg, hR2⟩ := Row.of_owns ho hl h0
    have hB2 := hB1.trans (hb2.mono (by omega))
    have hs2 : b < w2.heap.size := Nat.lt_of_lt_of_le hs1 hb2.size
    have r2 := (hb2.block b hs1).trans r1
    have hb3 : Below w2.heap.size w2 (w2.alloc (.cells #[.int .i64 1, .slice (some ⟨g, 0, none⟩) n N] 28)) := (Below.refl _ _).alloc (Nat.le_refl _) _
    have r3 := (hb3.block b hs2).trans r2
    have hR3 := hR2.up hb3
    have c3 : (w2.alloc (.cells #[.int .i64 1, .slice (some ⟨g, 0, none⟩) n N] 28)).heap[w2.heap.size]? = some (.cells #[.int .i64 1, .slice (some ⟨g, 0, none⟩) n N] 28) := heap_alloc_new _ _
    have hS := sort_many _ g N n ms hR3 hl hn
    have hB3 := hB2.trans (hb3.mono (by omega))
    have hs3 : w2.heap.size < (w2.alloc (.cells #[.int .i64 1, .slice (some ⟨g, 0, none⟩) n N] 28)).heap.size := by simp
    have hgl := hR2.lt
    clear hCl hcp ho b0 b1 f0 f1 hR2 hR3 hb3
    go_wp2_with fail
    generalize (w2.alloc (.cells #[.int .i64 1, .slice (some ⟨g, 0, none⟩) n N] 28)) = w3 at *
    refine hS.mono ?_
    rintro r w4 ⟨rfl, L, hLl, hR4, hx4⟩
    have hbg : b < g := Nat.lt_of_lt_of_le hs1 hg
    have r4 := (hx4.block b (by omega) (by omega)).trans r3
    have c4 := (hx4.block w2.heap.size hs3 (by omega)).trans c3
    have hB4 := hB3.trans (hx4.below (B := b) (by omega) (by omega))
    have hrd := hR4.rd
    rw [hLl] at hrd
    have hCk := Check_any 1 _ n N L w4 hrd (by omega)
    unfold chkV at hCk
    have x0 := cell_row c4 (j := 0) (v := .int .i64 1) rfl
    have x1 := cell_row c4 (j := 1) (v := .slice (some ⟨g, 0, none⟩) n N) rfl
    clear hS r3 c3
    go_wp2_with fail
    refine hCk.mono ?_
    rintro r w5 ⟨rfl, hb5⟩
    have hs4 : b < w4.heap.size := (Array.getElem?_eq_some_iff.1 r4).1
    have hs4c : w2.heap.size < w4.heap.size := (Array.getElem?_eq_some_iff.1 c4).1
    have hB5 := hB4.trans (hb5.mono (by omega))
    have r5 := (hb5.block b hs4).trans r4
    have c5 := (hb5.block w2.heap.size hs4c).trans c4
    have hr5 := hrd.below hb5
    have b0 := cell_row r5 (j := 0) (v := .int .i64 0) rfl
    have b1 := cell_row r5 (j := 1) (v := .slice none 0 0) rfl
    have f0 := frozen_of_row w5 b 0 _ _ r5
    have f1 := frozen_of_row w5 b 1 _ _ r5
    have z0 := cell_row c5 (j := 0) (v := .int .i64 1) rfl
    have z1 := cell_row c5 (j := 1) (v := .slice (some ⟨g, 0, none⟩) n N) rfl
    clear hCk x0 x1 hrd r4 c4
    have e0 : ∀ x y, ((w5.setCell ⟨b, 0, none⟩ x).setCell ⟨b, 1, none⟩ y).cell? ⟨b, 0, none⟩ = some x := fun x y => by rw [World.cell?_setCell_other (h := by simp), World.cell?_setCell_same (h := b0)]
    have e1 : ∀ x y, ((w5.setCell ⟨b, 0, none⟩ x).setCell ⟨b, 1, none⟩ y).cell? ⟨b, 1, none⟩ = some y := fun x y => by
      have e2 : (w5.setCell ⟨b, 0, none⟩ x).cell? ⟨b, 1, none⟩ = some (.slice none 0 0) := by rw [World.cell?_setCell_other (h := by simp)]; exact b1
      rw [World.cell?_setCell_same (h := e2)]
    have E0 : Hid _ := e0
    have E1 : Hid _ := e1
    clear e0 e1
    have hk : chk 1 L = false := by
      cases hk : chk 1 L with
      | false => rfl
      | true => have := chk_parts hk; omega
    simp only [hk, Bool.false_eq_true, if_false]
    go_wp2_with fail
    exact bodyPost_ret (results_chain (p := 2) (u := 3) rfl _ _ b _ _ rfl (E0.out _ _) (E1.out _ _)) rfl ⟨_, rfl, rfl, Gr.putB hB5 (Nat.le_refl b) _ _⟩

set_option maxRecDepth 20000 in
theorem sort_none (w : World) (q : Option Addr) (d : Nat) :
    Calls Tryd.prog 66 #[.slice q 0 d, .func (.func 67) #[] #[]] w fun e w' => e = .returned (.tuple #[]) ∧ w' = w := by
  have hI : Calls Tryd.prog 96 #[.slice q 0 d, .int .i64 0, .int .i64 0, .func (.func 67) #[] #[]] w fun e w' => e = .returned (.tuple #[]) ∧ w' = w := by
    go_enter Tryd.func96, Tryd.ntmps96
    go_wp2_with fail
    go_loopw [8] (fun x wr => x = .int .i64 1 ∧ wr = w) (fun _ _ => 0)
    case atStart => exact ⟨by first | rfl | go_num, rfl⟩
    case round =>
      obtain ⟨rfl, rfl⟩ := hrel
      go_wp2_with fail
      go_end0
      exact ⟨rfl, rfl⟩
  have hS : Calls Tryd.prog 82 #[.slice q 0 d, .int .i64 0, .func (.func 67) #[] #[]] w fun e w' => e = .returned (.tuple #[]) ∧ w' = w := by
    go_enter Tryd.func82, Tryd.ntmps82
    go_wp2_with fail
    go_loopw [7, 8] (fun u v wr => u = .int .i64 0 ∧ v = .int .i64 20 ∧ wr = w) (fun _ _ _ => 0)
    case atStart => exact ⟨by first | rfl | go_num, by first | rfl | go_num, rfl⟩
    case round =>
      obtain ⟨rfl, rfl, hwr⟩ := hrel
      rw [hwr]
      clear hwr
      go_wp2_with fail
      refine hI.mono ?_
      rintro r w1 ⟨rfl, hw1⟩
      rw [hw1]
      clear hw1
      go_wp2_with fail
      go_loopw [6] (fun v wr => v = .int .i64 20 ∧ wr = w) (fun _ _ => 0)
      case atStart => exact ⟨rfl, rfl⟩
      case round =>
        obtain ⟨rfl, hwr⟩ := hrel
        rw [hwr]
        go_wp2_with fail
        go_end0
        exact ⟨rfl, rfl⟩
  go_enter Tryd.func66, Tryd.ntmps66
  go_wp2_with fail
  refine hS.mono ?_
  rintro r w1 ⟨rfl, rfl⟩
  go_wp2_with fail
  go_end0
  exact ⟨rfl, rfl⟩

set_option maxRecDepth 20000 in
set_option maxHeartbeats 2000000 in
theorem First_none (p : Option Addr) (c : Nat) (ms : List Mb) (w : World) (hr : RdM w p 0 c ms) :
    Calls Tryd.prog 48 #[.slice p 0 c] w fun r w' => ∃ v, r = .returned v ∧ Told w.heap.size w' v (.error 80) ∧ Below w.heap.size w w' := by
  have hb0 : Below w.heap.size w (w.alloc (.cells #[.int .i64 0, .slice none 0 0] 28)) := (Below.refl _ _).alloc (Nat.le_refl _) _
  have hl := hr.len
  have r0 : (w.alloc (.cells #[.int .i64 0, .slice none 0 0] 28)).heap[w.heap.size]? = some (.cells #[.int .i64 0, .slice none 0 0] 28) := heap_alloc_new _ _
  have hr0 := hr.below hb0
  have hs0 : w.heap.size < (w.alloc (.cells #[.int .i64 0, .slice none 0 0] 28)).heap.size := by simp
  have hC := containsF_any _ cfFresh #[] _ p 0 c ms _ hr0 (by omega) (asksFresh _)
  generalize ms.any (fun m => m.f) = q at *
  generalize hw : w.heap.size = b at *
  go_enter Tryd.func48, Tryd.ntmps48
  go_wp2_with fail
  generalize (w.alloc (.cells #[.int .i64 0, .slice none 0 0] 28)) = w0 at *
  refine hC.mono ?_
  rintro r w1 ⟨rfl, hb1⟩
  have hB1 := hb0.trans (hb1.mono (by omega))
  have r1 := (hb1.block b hs0).trans r0
  have hr1 := hr0.below hb1
  have hs1 : b < w1.heap.size := Nat.lt_of_lt_of_le hs0 hb1.size
  clear hC hr hr0 hb0 r0
  have b0 := cell_row r1 (j := 0) (v := .int .i64 0) rfl
  have b1 := cell_row r1 (j := 1) (v := .slice none 0 0) rfl
  have f0 := frozen_of_row w1 b 0 _ _ r1
  have f1 := frozen_of_row w1 b 1 _ _ r1
  cases q with
  | true =>
    have e0 : ((w1.setCell ⟨b, 0, none⟩ (.int .i64 0)).setCell ⟨b, 1, none⟩ (.slice none 0 0)).cell? ⟨b, 0, none⟩ = some (.int .i64 0) := by rw [World.cell?_setCell_other (h := by simp), World.cell?_setCell_same (h := b0)]
    have e1 : ((w1.setCell ⟨b, 0, none⟩ (.int .i64 0)).setCell ⟨b, 1, none⟩ (.slice none 0 0)).cell? ⟨b, 1, none⟩ = some (.slice none 0 0) := by
      have e2 : (w1.setCell ⟨b, 0, none⟩ (.int .i64 0)).cell? ⟨b, 1, none⟩ = some (.slice none 0 0) := by rw [World.cell?_setCell_other (h := by simp)]; exact b1
      rw [World.cell?_setCell_same (h := e2)]
    have hbb := Gr.putB hB1 (Nat.le_refl b) (.int .i64 0) (.slice none 0 0)
    go_wp2_with fail
    exact bodyPost_ret (results_chain (p := 2) (u := 3) rfl _ _ b _ _ rfl e0 e1) rfl ⟨_, rfl, rfl, hbb⟩
  | false =>
    have hCl := cloneM_any p 0 c ms w1 hr1 (by omega)
    go_wp2_with fail
    refine hCl.mono ?_
    rintro r w2 ⟨v2, rfl, hcp, hb2⟩
    obtain ⟨q, d, rfl, hqd, hrq⟩ := hcp.tell hl
    obtain rfl : ms = [] := List.length_eq_zero_iff.1 hl
    have hB2 := hB1.trans (hb2.mono (by omega))
    have hs2 : b < w2.heap.size := Nat.lt_of_lt_of_le hs1 hb2.size
    have r2 := (hb2.block b hs1).trans r1
    have hb3 : Below w2.heap.size w2 (w2.alloc (.cells #[.int .i64 1, .slice q 0 d] 28)) := (Below.refl _ _).alloc (Nat.le_refl _) _
    have r3 := (hb3.block b hs2).trans r2
    have c3 : (w2.alloc (.cells #[.int .i64 1, .slice q 0 d] 28)).heap[w2.heap.size]? = some (.cells #[.int .i64 1, .slice q 0 d] 28) := heap_alloc_new _ _
    have hS := sort_none (w2.alloc (.cells #[.int .i64 1, .slice q 0 d] 28)) q d
    have hB3 := hB2.trans (hb3.mono (by omega))
    have hs3 : w2.heap.size < (w2.alloc (.cells #[.int .i64 1, .slice q 0 d] 28)).heap.size := by simp
    clear hCl hcp b0 b1 f0 f1 hb3
    go_wp2_with fail
    generalize (w2.alloc (.cells #[.int .i64 1, .slice q 0 d] 28)) = w3 at *
    refine hS.mono ?_
    rintro r w4 ⟨rfl, rfl⟩
    have r4 := r3
    have c4 := c3
    have hB4 := hB3
    have hrd : RdM w4 q 0 d [] := ⟨rfl, Nat.zero_le _, hrq.nil, fun h => absurd h (Nat.lt_irrefl _)⟩
    clear hrq
    have hCk := Check_any 1 _ 0 d [] w4 hrd (by omega)
    unfold chkV at hCk
    have x0 := cell_row c4 (j := 0) (v := .int .i64 1) rfl
    have x1 := cell_row c4 (j := 1) (v := .slice q 0 d) rfl
    clear hS r3 c3
    go_wp2_with fail
    refine hCk.mono ?_
    rintro r w5 ⟨rfl, hb5⟩
    have hs4 : b < w4.heap.size := (Array.getElem?_eq_some_iff.1 r4).1
    have hs4c : w2.heap.size < w4.heap.size := (Array.getElem?_eq_some_iff.1 c4).1
    have hB5 := hB4.trans (hb5.mono (by omega))
    have r5 := (hb5.block b hs4).trans r4
    have c5 := (hb5.block w2.heap.size hs4c).trans c4
    have hr5 := hrd.below hb5
    have b0 := cell_row r5 (j := 0) (v := .int .i64 0) rfl
    have b1 := cell_row r5 (j := 1) (v := .slice none 0 0) rfl
    have f0 := frozen_of_row w5 b 0 _ _ r5
    have f1 := frozen_of_row w5 b 1 _ _ r5
    have z0 := cell_row c5 (j := 0) (v := .int .i64 1) rfl
    have z1 := cell_row c5 (j := 1) (v := .slice q 0 d) rfl
    clear hCk x0 x1 hrd r4 c4
    have e0 : ∀ x y, ((w5.setCell ⟨b, 0, none⟩ x).setCell ⟨b, 1, none⟩ y).cell? ⟨b, 0, none⟩ = some x := fun x y => by rw [World.cell?_setCell_other (h := by simp), World.cell?_setCell_same (h := b0)]
    have e1 : ∀ x y, ((w5.setCell ⟨b, 0, none⟩ x).setCell ⟨b, 1, none⟩ y).cell? ⟨b, 1, none⟩ = some y := fun x y => by
      have e2 : (w5.setCell ⟨b, 0, none⟩ x).cell? ⟨b, 1, none⟩ = some (.slice none 0 0) := by rw [World.cell?_setCell_other (h := by simp)]; exact b1
      rw [World.cell?_setCell_same (h := e2)]
    have E0 : Hid _ := e0
    have E1 : Hid _ := e1
    clear e0 e1
    have hk : chk 1 [] = false := by
      cases hk : chk 1 [] with
      | false => rfl
      | true => have := (chk_parts hk).2.2.1; exact absurd this (Nat.lt_irrefl _)
    simp only [hk, Bool.false_eq_true, if_false]
    go_wp2_with fail
    exact bodyPost_ret (results_chain (p := 2) (u := 3) rfl _ _ b _ _ rfl (E0.out _ _) (E1.out _ _)) rfl ⟨_, rfl, rfl, Gr.putB hB5 (Nat.le_refl b) _ _⟩

end Go.Proofs.YtigojnpjpagfjaaDoor.M

namespace Go.Proofs.YtigojnpjpagfjaaDoor.M
open Go.ChangeShapes Go.WideShapes Go.ChangeAt Go.RowKit

def FirstIs (n : Nat) (ms : List Mb) (R : CR) : Prop := ∀ (p : Option Addr) (c : Nat) (w : World), RdM w p n c ms → Calls Tryd.prog 48 #[.slice p n c] w fun r w' => ∃ v, r = .returned v ∧ Told w.heap.size w' v R ∧ Below w.heap.size w w'

theorem first_is (n : Nat) (ms : List Mb) (hl : ms.length = n) (hn : n ≤ 60) : ∃ R, FirstIs n ms R ∧ (R = .error 80 ∨ ∃ M, R = .ok (1, M) ∧ chk 1 M = true ∧ M.length = n) := by
  rcases Nat.eq_zero_or_pos n with h0 | h0
  · subst h0
    exact ⟨.error 80, fun p c w hr => First_none p c ms w hr, Or.inl rfl⟩
  by_cases h6 : 6 < n
  · exact ⟨.error 80, fun p c w hr => First_many p n c ms w hr (by omega) h6, Or.inl rfl⟩
  refine ⟨firstR ms, fun p c w hr => First_few p n c ms w hr (by omega) h0, ?_⟩
  unfold firstR
  split
  · exact Or.inl rfl
  · split
    · exact Or.inl rfl
    · next hk =>
      exact Or.inr ⟨_, rfl, by simpa using hk, by rw [outS_len]; exact hl⟩

set_option maxRecDepth 20000 in
set_option maxHeartbeats 2000000 in
theorem New_bad (p : Option Addr) (n c : Nat) (ms : List Mb) (w : World) (hr : RdM w p n c ms) (hF : FirstIs n ms (.error 80)) :
    Calls Tryd.prog 23 #[.slice p n c] w fun r w' => r = .returned (.tuple #[.pointer none, .int .i64 80]) ∧ Below w.heap.size w w' := by
  have g1 := hF p c w hr
  clear hr hF
  go_enter Tryd.func23, Tryd.ntmps23
  go_wp2_with fail
  refine g1.mono ?_
  rintro r w1 ⟨v, rfl, hT, hb1⟩
  have hv : v = .tuple #[.agg #[.int .i64 0, .slice none 0 0], .int .i64 80] := hT
  subst hv
  clear g1 hT
  go_wp2_with fail
  go_ret2
  exact ⟨rfl, hb1.trans ((below_alloc _ _).mono hb1.size)⟩

theorem PL.first_ok {M : List Mb} (h : Hid (chk 1 M = true)) : (⟨1, M, 0, [(1, M)]⟩ : PL).ok := ⟨h.out, rfl, Int.le_refl _, by show (0 : Int) ≤ _; omega⟩

theorem LP.born (w : World) (q : Option Addr) (N c : Nat) (M : List Mb) (hr : RdM w q N c M) :
    LP ((w.alloc (.cells #[.int .i64 1, .slice q N c] 28)).alloc (.cells #[.slice (some ⟨w.heap.size, 0, none⟩) 1 1, .int .i64 1, .slice q N c, .int .i64 0] 91)) (w.heap.size + 1) w.heap.size ⟨1, M, 0, [(1, M)]⟩ := by
  have h1 := below_alloc w (.cells #[.int .i64 1, .slice q N c] 28)
  have h2 := below_alloc (w.alloc (.cells #[.int .i64 1, .slice q N c] 28)) (.cells #[.slice (some ⟨w.heap.size, 0, none⟩) 1 1, .int .i64 1, .slice q N c, .int .i64 0] 91)
  have hb := h1.trans (h2.mono h1.size)
  have hx : (⟨1, q, N, c, M⟩ : HE).rd ((w.alloc (.cells #[.int .i64 1, .slice q N c] 28)).alloc (.cells #[.slice (some ⟨w.heap.size, 0, none⟩) 1 1, .int .i64 1, .slice q N c, .int .i64 0] 91)) (w.heap.size + 1) w.heap.size :=
    ⟨hr.below hb, fun a ha h0 => by have : a.block < w.heap.size := rd_lt hr ha h0; exact ⟨by omega, by omega⟩⟩
  refine ⟨1, ⟨1, q, N, c, M⟩, [⟨1, q, N, c, M⟩], ⟨?_, ⟨rfl, Or.inr ⟨w.heap.size, 1, #[.int .i64 1, .slice q N c], rfl, Nat.zero_le _, ?_, Nat.le_refl _, by decide, rfl, rfl⟩⟩, by omega, hx, fun h hh => by rw [List.mem_singleton.1 hh]; exact hx, Nat.zero_lt_one⟩, rfl, rfl⟩
  · have := At.new 91 (w.alloc (.cells #[.int .i64 1, .slice q N c] 28)) #[.slice (some ⟨w.heap.size, 0, none⟩) 1 1, .int .i64 1, .slice q N c, .int .i64 0]
    refine At.moved ?_ this
    simp
  · exact (At.new 28 w #[.int .i64 1, .slice q N c]).below h2

set_option maxRecDepth 20000 in
set_option maxHeartbeats 2000000 in
theorem New_ok (p : Option Addr) (n c : Nat) (ms : List Mb) (w : World) (hr : RdM w p n c ms) (M : List Mb) (hF : FirstIs n ms (.ok (1, M))) :
    Calls Tryd.prog 23 #[.slice p n c] w fun r w' => ∃ v, r = .returned v ∧ ∃ g r, v = .tuple #[.pointer (some ⟨g, 0, none⟩), .int .i64 0] ∧ LP w' g r ⟨1, M, 0, [(1, M)]⟩ ∧ w.heap.size ≤ g ∧ w.heap.size ≤ r ∧ Below w.heap.size w w' := by
  have g1 := hF p c w hr
  clear hr hF
  go_enter Tryd.func23, Tryd.ntmps23
  go_wp2_with fail
  refine g1.mono ?_
  rintro r w1 ⟨v, rfl, hT, hb1⟩
  obtain ⟨q, d, hv, _, hrM⟩ := hT
  subst hv
  have hba := below_alloc w1 (.cells #[.int .i64 1, .slice q M.length d] 28)
  have hB := hb1.trans (hba.mono hb1.size)
  have hL := LP.born _ q M.length d M (hrM.below hba)
  have hC := At.new 28 w1 #[.int .i64 1, .slice q M.length d]
  obtain ⟨c0, c1⟩ := hC.two
  have hB2 := (hB.trans ((below_alloc _ (.cells #[.int .i64 1, .slice q M.length d] 28)).mono hB.size))
  have hB3 := (hB2.trans ((below_alloc _ (.cells #[.slice (some ⟨(w1.alloc (.cells #[.int .i64 1, .slice q M.length d] 28)).heap.size, 0, none⟩) 1 1, .int .i64 1, .slice q M.length d, .int .i64 0] 91)).mono hB2.size))
  have hs := hB.size
  clear g1 hrM hb1 hba hC
  go_wp2_with fail
  go_ret2
  simp only [World.size_alloc] at hL hB3 hs ⊢
  exact ⟨_, rfl, _, _, rfl, hL, by omega, hs, hB3⟩

end Go.Proofs.YtigojnpjpagfjaaDoor.M

namespace Go.Proofs.YtigojnpjpagfjaaDoor.M
open Go.ChangeShapes Go.WideShapes Go.ChangeAt Go.RowKit

theorem wR_putL {m : Nat} (h : m ≤ 1099511627776) (rest : List Int) : wR (putL m ++ rest, 0) = ((m : Int), (rest, 0)) := by
  have e := numR_putL (m := m) (by omega) rest
  unfold wR
  dsimp only
  rw [if_pos rfl, e]
  dsimp only
  rw [if_pos rfl, if_pos h, List.drop_left]

theorem getR_put {k n s e : Int} (h : cmdOk k n s e = true) : getR (putAll [k, n, s, e]) = some (k, n, s, e) := by
  obtain ⟨⟨a1, a2⟩, ⟨b1, b2⟩, ⟨c1, c2⟩, d1, d2⟩ := cmd_lim h
  obtain ⟨k, rfl⟩ := Int.eq_ofNat_of_zero_le (show 0 ≤ k by omega)
  obtain ⟨n, rfl⟩ := Int.eq_ofNat_of_zero_le b1
  obtain ⟨s, rfl⟩ := Int.eq_ofNat_of_zero_le c1
  obtain ⟨e, rfl⟩ := Int.eq_ofNat_of_zero_le (show 0 ≤ e by omega)
  have hp : putAll [(k : Int), (n : Int), (s : Int), (e : Int)] = putL k ++ (putL n ++ (putL s ++ (putL e ++ []))) := by simp [putAll]
  have hc : cmd4 (putAll [(k : Int), (n : Int), (s : Int), (e : Int)]) = ((k : Int), (n : Int), (s : Int), (e : Int), 0) := by
    have hc4 : ∀ X, cmd4 X = ((wR (X, 0)).1, (wR (wR (X, 0)).2).1, (wR (wR (wR (X, 0)).2).2).1, (wR (wR (wR (wR (X, 0)).2).2).2).1, endR (wR (wR (wR (wR (X, 0)).2).2).2).2) := fun _ => rfl
    rw [hc4, hp, wR_putL (m := k) (by omega)]
    dsimp only
    rw [wR_putL (m := n) (by omega)]
    dsimp only
    rw [wR_putL (m := s) (by omega)]
    dsimp only
    rw [wR_putL (m := e) (by omega)]
    rfl
  unfold getR
  rw [hc]
  dsimp only
  rw [if_pos ⟨rfl, h⟩]

/-- A command that may be, and is of the ledger's epoch. -/
theorem app_cmd {s : PL} {k n st : Int} (h : cmdOk k n st s.e = true) (ha : s.at_ + 1 ≤ 1099511627776) : s.app (s.at_ + 1) (putAll [k, n, st, s.e]) = s.ch (s.at_ + 1) (chR k n st s.e s.ms) := by
  have hg := getR_put h
  have hne : putAll [k, n, st, s.e] ≠ [] := fun h0 => by rw [h0] at hg; cases hg
  unfold PL.app
  rw [if_pos ⟨rfl, ha⟩, if_neg hne, hg]
  unfold PL.cmd
  dsimp only
  rw [if_pos rfl]

/-- A command of a plan may be, is done by a ledger of the chain, and speaks of none that lives as dead. -/
theorem safe_next {al : Nat} {hs vs : List Int} {s : PL} {x : Cm} {e2 : Int} {ms2 : List Mb} (hc : chk s.e s.ms = true) (ha : s.at_ + 1 ≤ 1099511627776) (h : nextR al hs vs s.e s.ms = some (x, e2, ms2)) :
    x.e = s.e ∧ cmdOk x.k x.n x.s x.e = true ∧ (x.k = 1 → hasN al x.n = false) ∧ ∃ H, s.app (s.at_ + 1) (putAll [x.k, x.n, x.s, x.e]) = (0, ⟨e2, ms2, s.at_ + 1, H⟩) := by
  obtain ⟨g1, g2, _, g4⟩ := (chk_iff s.e s.ms).1 hc
  unfold nextR at h
  split at h
  · next y hd =>
    cases h
    obtain ⟨m, hm, h1, h2, rfl⟩ := deadR_some hd
    have hb := (isMb_iff m).1 (g4.1 m hm)
    have hok : cmdOk 1 m.n 0 s.e = true := by unfold cmdOk; simp [hb.1, hb.2.1, g1, g2]
    refine ⟨rfl, hok, fun _ => h1, ?_⟩
    have := app_cmd hok ha
    dsimp only
    rw [this]
    have hch : chR 1 m.n 0 s.e s.ms = .ok (e2, ms2) := by unfold chR; rw [if_pos (by decide)]; exact h2
    rw [hch]
    exact ⟨_, rfl⟩
  · unfold joinA at h
    split at h
    · obtain ⟨j, _, _, _, h2, rfl⟩ := joinsR_some h
      obtain ⟨_, _, c3, _, _⟩ := join_chk hc h2
      have hb := (isMb_iff _).1 c3
      dsimp only at hb
      have hok : cmdOk 2 (spareV al hs s.ms (j : Int)) (j : Int) s.e = true := by
        unfold cmdOk
        simp [hb.1, hb.2.1, hb.2.2.2, g1, g2]
      refine ⟨rfl, hok, (fun h2 => absurd (show (2 : Int) = 1 from h2) (by decide)), ?_⟩
      have := app_cmd hok ha
      dsimp only
      rw [this]
      have hch : chR 2 (spareV al hs s.ms (j : Int)) (j : Int) s.e s.ms = .ok (e2, ms2) := by unfold chR; rw [if_neg (by decide), if_neg (by decide), if_pos (by decide)]; exact h2
      rw [hch]
      exact ⟨_, rfl⟩
    · cases h

/-- Members of which the first j are ready, if they live. -/
def rdJ (al : Nat) (ms : List Mb) (j : Nat) : List Mb := (ms.take j).map (fl al) ++ ms.drop j

theorem rdJ_zero (al : Nat) (ms : List Mb) : rdJ al ms 0 = ms := rfl

theorem rdJ_end {al : Nat} {ms : List Mb} {j : Nat} (h : ms.length ≤ j) : rdJ al ms j = ms.map (fl al) := by
  unfold rdJ
  rw [List.take_of_length_le h, List.drop_of_length_le h, List.append_nil]

theorem rdJ_len (al : Nat) (ms : List Mb) (j : Nat) : (rdJ al ms j).length = ms.length := by
  unfold rdJ
  rw [List.length_append, List.length_map, List.length_take, List.length_drop]
  omega

theorem rdJ_get {al : Nat} {ms : List Mb} {j : Nat} (h : j < ms.length) : (rdJ al ms j).getD j .z0 = ms.getD j .z0 := by
  unfold rdJ
  have hl : ((ms.take j).map (fl al)).length = j := by rw [List.length_map, List.length_take]; omega
  rw [List.getD_eq_getElem?_getD, List.getElem?_append_right (by omega), hl, Nat.sub_self, drop_mb h]
  rfl

theorem rdJ_step {al : Nat} {ms : List Mb} {j : Nat} (h : j < ms.length) : rdJ al ms (j + 1) = (rdJ al ms j).set j (fl al (ms.getD j .z0)) := by
  unfold rdJ
  have hl : ((ms.take j).map (fl al)).length = j := by rw [List.length_map, List.length_take]; omega
  rw [take_snoc_mb h, List.map_append, List.append_assoc, List.set_append_right _ _ (by omega), hl, Nat.sub_self, drop_mb h]
  rfl

/-- One that is fresh, and lives, is ready by a ledger. -/
theorem safe_ready {al : Nat} {ms : List Mb} {j : Nat} {s : PL} (hj : j < ms.length) (hs : s.ms = rdJ al ms j) (hc : chk s.e s.ms = true) (ha : s.at_ + 1 ≤ 1099511627776) (hf : (ms.getD j .z0).f = true) (hl : hasN al (ms.getD j .z0).n = true) :
    cmdOk 4 (ms.getD j .z0).n 0 s.e = true ∧ ∃ H, s.app (s.at_ + 1) (putAll [4, (ms.getD j .z0).n, 0, s.e]) = (0, ⟨s.e, rdJ al ms (j + 1), s.at_ + 1, H⟩) := by
  obtain ⟨g1, g2, _, g4⟩ := (chk_iff s.e s.ms).1 hc
  have hlen : j < s.ms.length := by rw [hs, rdJ_len]; exact hj
  have hget : s.ms.getD j .z0 = ms.getD j .z0 := by rw [hs]; exact rdJ_get hj
  have hp := plc_at hc hlen
  have hb := (isMb_iff _).1 (g4.1 _ (getD_mb hlen))
  rw [hget] at hp hb
  have hok : cmdOk 4 (ms.getD j .z0).n 0 s.e = true := by unfold cmdOk; simp only [hb.1, hb.2.1, g1, g2]; simp
  refine ⟨hok, ?_⟩
  rw [app_cmd hok ha]
  have hrd : chR 4 (ms.getD j .z0).n 0 s.e s.ms = .ok (s.e, rdJ al ms (j + 1)) := by
    unfold chR
    rw [if_neg (by decide), if_neg (by decide), if_neg (by decide), if_neg (by decide)]
    unfold readyR
    rw [hc]
    simp only [Bool.true_eq_false, if_false]
    rw [hp, Int.toNat_natCast, hget, if_neg (fun hh => hh.elim (fun h1 => by omega) (fun h1 => by rw [hf] at h1; cases h1)), rdJ_step hj, ← hs]
    have e : fl al (ms.getD j .z0) = { ms.getD j .z0 with f := false } := by unfold fl; rw [hf, hl]; rfl
    rw [e]
  rw [hrd]
  refine ⟨s.H, ?_⟩
  unfold PL.ch
  dsimp only
  rw [if_neg (Int.lt_irrefl _)]

/-- One that is not fresh, or does not live, stays as it is. -/
theorem safe_skip {al : Nat} {ms : List Mb} {j : Nat} (hj : j < ms.length) (h : ((ms.getD j .z0).f && hasN al (ms.getD j .z0).n) = false) : rdJ al ms (j + 1) = rdJ al ms j := by
  rw [rdJ_step hj]
  have e : fl al (ms.getD j .z0) = ms.getD j .z0 := by
    generalize ms.getD j .z0 = m at *
    obtain ⟨a, b, c⟩ := m
    unfold fl
    dsimp only at *
    cases c with
    | false => simp
    | true => rw [Bool.true_and] at h; rw [h]; rfl
  rw [e, ← rdJ_get (al := al) hj]
  have hl : j < (rdJ al ms j).length := by rw [rdJ_len]; exact hj
  rw [getD_get hl]
  exact List.set_getElem_self hl

end Go.Proofs.YtigojnpjpagfjaaDoor.M

namespace Go.Proofs.YtigojnpjpagfjaaDoor.M
open Go.ChangeShapes Go.WideShapes Go.ChangeAt Go.RowKit

theorem Chain_any (g r : Nat) (s : PL) (w : World) (h : LP w g r s) (hn : s.ms.length ≤ 6) :
    Calls Tryd.prog 24 #[.pointer (some ⟨g, 0, none⟩)] w fun o w' => ∃ v, o = .returned v ∧ ∃ q d, v = .agg #[.int .i64 s.e, .slice q s.ms.length d] ∧ RdM w' q s.ms.length d s.ms ∧ (∀ a, q = some a → 0 < s.ms.length → w.heap.size ≤ a.block) ∧ Below w.heap.size w w' := by
  obtain ⟨bc, x, H, hL, hx, hH⟩ := h
  have hl := hL.now.1.len
  have e1 : x.e = s.e := congrArg Prod.fst hx
  have e2 : x.ms = s.ms := congrArg Prod.snd hx
  rw [e2] at hl
  refine (Chain_yes g r bc x s.at_ H w hL (by omega)).mono ?_
  rintro o w' ⟨q, d, rfl, h1, h2, h3⟩
  rw [e1, ← hl]
  rw [← hl, e2] at h2
  rw [← hl] at h1
  exact ⟨_, rfl, q, d, rfl, h2, h1, h3⟩

theorem At_any (g r : Nat) (s : PL) (w : World) (h : LP w g r s) :
    Calls Tryd.prog 28 #[.pointer (some ⟨g, 0, none⟩)] w fun o w' => o = .returned (.int .i64 s.at_) ∧ w' = w := by
  obtain ⟨bc, x, H, hL, hx, hH⟩ := h
  exact At_yes g r bc x s.at_ H w hL

theorem mu_le {al : Nat} {e : Int} {ms : List Mb} (hk : chk e ms = true) : muA al ms ≤ 12 := by
  have := dead_live al ms
  have := (chk_parts hk).2.2.2
  unfold muA
  omega

theorem mu_ready {al : Nat} (ms : List Mb) : muA al (ms.map (fl al)) = muA al ms := by unfold muA; rw [deadC_map, liveC_map]

theorem Steps.there {al : Nat} {hs vs : List Int} : ∀ (N : Nat) {e : Int} {ms : List Mb}, chk e ms = true → muA al ms < N → ∃ l e2 ms2, Steps al hs vs e ms l e2 ms2
  | 0, _, _, _, h => absurd h (Nat.not_lt_zero _)
  | N + 1, e, ms, hc, h => by
    have hmA : muA al (readyA al e ms) = muA al ms := by rw [readyA_map hc]; unfold muA; rw [deadC_map, liveC_map]
    cases hn : nextR al hs vs e (readyA al e ms) with
    | none => exact ⟨_, _, _, Steps.done hn⟩
    | some y =>
      obtain ⟨x, e2, ms2⟩ := y
      obtain ⟨c1, _, c3⟩ := next_less (readyA_chk hc) (readyA_lively hc) hn
      obtain ⟨l, e3, ms3, hst⟩ := Steps.there (al := al) (hs := hs) (vs := vs) N c1 (by omega)
      exact ⟨_, _, _, Steps.step hn hst⟩

set_option maxRecDepth 20000 in
theorem equalI_same (p q : Option Addr) (n c d : Nat) (xs : List Int) (w : World) (hp : Rd .i64 w p n c xs) (hq : Rd .i64 w q n d xs) (hn : n ≤ 1099511627776) :
    Calls Tryd.prog 30 #[.slice p n c, .slice q n d] w fun e w' => e = .returned (.bool true) ∧ Below w.heap.size w w' := by
  go_enter Tryd.func30, Tryd.ntmps30
  go_wp2_with fail
  go_loopw [13] (fun i wr => ∃ k : Nat, k ≤ n ∧ i = .int .i64 k ∧ Below w.heap.size w wr) (fun i _ => n - (intOf i).toNat)
  case atStart => exact ⟨0, Nat.zero_le _, rfl, Below.refl _ _⟩
  case round =>
    obtain ⟨k, hk, rfl, hb⟩ := hrel
    by_cases h : k < n
    · obtain ⟨b1, o1, rfl, c1⟩ := (hp.below hb).cells (by omega)
      obtain ⟨b2, o2, rfl, c2⟩ := (hq.below hb).cells (by omega)
      have x1 := c1 k h
      have y1 := c2 k h
      have hk1 : (k : Int) < (n : Int) := by omega
      clear hp hq c1 c2
      generalize xs.getD k 0 = f at *
      go_wp2_with fail
      go_quiet (fail)
      go_wp2_with fail
      go_roundw
      case rel => exact ⟨k + 1, by omega, by go_num, below_drewN hb nq⟩
      case measure => simp [intOf]; omega
    · obtain rfl : k = n := by omega
      clear hp hq
      go_wp2_with fail
      go_ret
      exact ⟨rfl, hb⟩

set_option maxRecDepth 20000 in
theorem Members_any (p : Option Addr) (n c : Nat) (ms M : List Mb) (w : World) (hr : RdM w p n c ms) (hF : FirstIs n ms (.ok (1, M))) :
    Calls Tryd.prog 29 #[.slice p n c] w fun r w' => ∃ v, r = .returned v ∧ ∃ q d, v = .slice q M.length d ∧ RdM w' q M.length d M ∧ Below w.heap.size w w' := by
  have g1 := hF p c w hr
  clear hr hF
  go_enter Tryd.func29, Tryd.ntmps29
  go_wp2_with fail
  refine g1.mono ?_
  rintro r w1 ⟨v, rfl, hT, hb1⟩
  obtain ⟨q, d, hv, _, hrM⟩ := hT
  subst hv
  have hba := below_alloc w1 (.cells #[.int .i64 1, .slice q M.length d] 28)
  have hB := hb1.trans (hba.mono hb1.size)
  have hC := At.new 28 w1 #[.int .i64 1, .slice q M.length d]
  obtain ⟨c0, c1⟩ := hC.two
  have hr2 := hrM.below hba
  clear g1 hb1 hba hC hrM
  go_wp2_with fail
  go_ret
  exact ⟨_, rfl, q, d, rfl, hr2, hB⟩

theorem field_e (a b : Value) (w : World) : (Instr.field 28 (.agg #[a, b]) 0).run Tryd.prog w = .ok a w := by
  have hi : (Tryd.prog.info? 3).map (·.size) = some 1 := by kernel_rfl
  cases hq : Tryd.prog.info? 3 with
  | none => simp [hq] at hi
  | some i =>
    have hs : i.size = 1 := by simpa [hq] using hi
    simp [Instr.field, run_underlying Tryd.underlying28, part, asAgg, sizeOf, typeInfo, hq, hs]

theorem field_m (a b : Value) (w : World) : (Instr.field 28 (.agg #[a, b]) 1).run Tryd.prog w = .ok b w := by
  have hi : (Tryd.prog.info? 26).map (·.size) = some 1 := by kernel_rfl
  cases hq : Tryd.prog.info? 26 with
  | none => simp [hq] at hi
  | some i =>
    have hs : i.size = 1 := by simpa [hq] using hi
    simp [Instr.field, run_underlying Tryd.underlying28, part, asAgg, sizeOf, typeInfo, hq, hs]

theorem wd4 {k n s e : Int} (h : cmdOk k n s e = true) : Wd [k, n, s, e] := by
  obtain ⟨⟨a1, a2⟩, ⟨b1, b2⟩, ⟨c1, c2⟩, d1, d2⟩ := cmd_lim h
  intro x hx
  simp only [List.mem_cons, List.not_mem_nil, or_false] at hx
  rcases hx with rfl | rfl | rfl | rfl <;> exact ⟨by omega, by omega⟩

theorem one4 (a b c d : Int) : (#[Value.int .i64 a, Value.int .i64 b, Value.int .i64 c, Value.int .i64 d].all (·.oneCell')) = true :=
  all_oneCell_toArray (cs := [Value.int .i64 a, Value.int .i64 b, Value.int .i64 c, Value.int .i64 d]) (fun v hv => by
    simp only [List.mem_cons, List.not_mem_nil, or_false] at hv
    rcases hv with rfl | rfl | rfl | rfl <;> rfl)

theorem there4 {t : TypeId} {w : World} {x : Nat} {u v y z : Value} (h : At t w x #[u, v, y, z]) : w.there x 0 4 := fun j hj => by
  rw [Nat.zero_add]
  match j, hj with
  | 0, _ => exact ⟨by rw [h.cell 0]; rfl, h.free 0⟩
  | 1, _ => exact ⟨by rw [h.cell 1]; rfl, h.free 1⟩
  | 2, _ => exact ⟨by rw [h.cell 2]; rfl, h.free 2⟩
  | 3, _ => exact ⟨by rw [h.cell 3]; rfl, h.free 3⟩

def MsC (q : Option Addr) (n d : Nat) (ms : List Mb) (W : World) : Prop := RdM W q n d ms
def CbC (x : Nat) (W : World) : Prop := At 37 W x #[.int .i64 0, .int .i64 0, .int .i64 0, .int .i64 0]
def OwB (q : Option Addr) (n d : Nat) (xs : List Int) (W : World) : Prop := Rd .u8 W q n d xs

theorem MsC.stays (q : Option Addr) (n d : Nat) (ms : List Mb) : Stays (MsC q n d ms) := fun _ _ h hb => RdM.below h hb
theorem CbC.stays (x : Nat) : Stays (CbC x) := fun _ _ h hb => At.below h hb
theorem OwB.stays (q : Option Addr) (n d : Nat) (xs : List Int) : Stays (OwB q n d xs) := fun _ _ h hb => Rd.below h hb

/-- What a region that draws leaves: a frame that hangs on what was made. -/
def Meet3 (A : Nat → Option Addr → Nat → Act) (R : Nat → Option Addr → Nat → World → Prop) : Exit → Act → World → Prop
  | .normal, a, w => ∃ x q d, a = A x q d ∧ R x q d w
  | _, _, _ => False

theorem wp_meet3 {P : Program} {c : Code} {Q : Exit → Act → World → Prop} {a : Act} {w : World} {A : Nat → Option Addr → Nat → Act} {R : Nat → Option Addr → Nat → World → Prop} (h : c.wp P (Meet3 A R) a w) (k : ∀ x q d w', R x q d w' → Q .normal (A x q d) w') : c.wp P Q a w :=
  Code.wp_mono (fun e a2 w2 hm => by
    cases e with
    | normal => obtain ⟨x, q, d, rfl, hR⟩ := hm; exact k x q d w2 hR
    | _ => exact absurd hm id) h

def Meet7 (A : Nat → Option Addr → Nat → Option Addr → Nat → Option Addr → Nat → Act) (R : Nat → Option Addr → Nat → Option Addr → Nat → Option Addr → Nat → World → Prop) : Exit → Act → World → Prop
  | .normal, a, w => ∃ x q d q1 c1 q2 c2, a = A x q d q1 c1 q2 c2 ∧ R x q d q1 c1 q2 c2 w
  | _, _, _ => False

theorem wp_meet7 {P : Program} {c : Code} {Q : Exit → Act → World → Prop} {a : Act} {w : World} {A : Nat → Option Addr → Nat → Option Addr → Nat → Option Addr → Nat → Act} {R : Nat → Option Addr → Nat → Option Addr → Nat → Option Addr → Nat → World → Prop} (h : c.wp P (Meet7 A R) a w) (k : ∀ x q d q1 c1 q2 c2 w', R x q d q1 c1 q2 c2 w' → Q .normal (A x q d q1 c1 q2 c2) w') : c.wp P Q a w :=
  Code.wp_mono (fun e a2 w2 hm => by
    cases e with
    | normal => obtain ⟨x, q, d, q1, c1, q2, c2, rfl, hR⟩ := hm; exact k x q d q1 c1 q2 c2 w2 hR
    | _ => exact absurd hm id) h

/-- What the law's loop keeps: a ledger whose chain has as much to be told as the first one's had left. -/
def SafeI (al : Nat) (hs vs : List Int) (wB : World) (g : Nat) (e2 : Int) (ms2 : List Mb) (k : Nat) (wr : World) : Prop :=
  ∃ r s l, LP wr g r s ∧ s.ok ∧ wB.heap.size ≤ r ∧ s.at_ ≤ 7 * (k : Int) ∧ k + muA al s.ms ≤ 12 ∧ Steps al hs vs s.e s.ms l e2 ms2 ∧ Below wB.heap.size wB wr

/-- .. while those that live are made ready. -/
def ReadI (al : Nat) (wB : World) (g : Nat) (q : Option Addr) (d : Nat) (m0 : List Mb) (e0 at0 : Int) (j : Nat) (wr : World) : Prop :=
  ∃ r s, LP wr g r s ∧ s.ok ∧ s.e = e0 ∧ s.ms = rdJ al m0 j ∧ s.at_ ≤ at0 + j ∧ wB.heap.size ≤ r ∧ Below wB.heap.size wB wr ∧ RdM wr q m0.length d m0 ∧ ∀ a, q = some a → 0 < m0.length → a.block ≠ g ∧ a.block ≠ r

/-- What Next answers. -/
theorem pn_cases {al : Nat} {hs vs : List Int} {e : Int} {ms : List Mb} (hc : chk e ms = true) : ∃ k0 k1 k2 k3 ok er, pnV al hs vs e ms = .tuple #[.agg #[.int .i64 k0, .int .i64 k1, .int .i64 k2, .int .i64 k3], .bool ok, .int .i64 er] ∧ ((planC hs vs = false ∧ er = 1) ∨ (planC hs vs = true ∧ er = 0 ∧ ok = false ∧ nextR al hs vs e ms = none) ∨ (planC hs vs = true ∧ er = 0 ∧ ok = true ∧ ∃ e2 ms2, nextR al hs vs e ms = some (⟨k0, k1, k2, k3⟩, e2, ms2))) := by
  have hn : ¬ chk e ms = false := by rw [hc]; decide
  cases hp : planC hs vs with
  | false =>
    have e1 : pnV al hs vs e ms = .tuple #[.agg #[.int .i64 0, .int .i64 0, .int .i64 0, .int .i64 0], .bool false, .int .i64 1] := by unfold pnV; rw [if_neg hn, if_pos hp]
    exact ⟨_, _, _, _, _, _, e1, Or.inl ⟨rfl, rfl⟩⟩
  | true =>
    have hp2 : ¬ planC hs vs = false := by rw [hp]; decide
    cases hx : nextR al hs vs e ms with
    | none =>
      have e1 : pnV al hs vs e ms = .tuple #[.agg #[.int .i64 0, .int .i64 0, .int .i64 0, .int .i64 0], .bool false, .int .i64 0] := by unfold pnV; rw [if_neg hn, if_neg hp2, hx]; rfl
      exact ⟨_, _, _, _, _, _, e1, Or.inr (Or.inl ⟨rfl, rfl, rfl, rfl⟩)⟩
    | some y =>
      obtain ⟨⟨a, b, c, d⟩, e2, ms2⟩ := y
      have e1 : pnV al hs vs e ms = .tuple #[.agg #[.int .i64 a, .int .i64 b, .int .i64 c, .int .i64 d], .bool true, .int .i64 0] := by unfold pnV; rw [if_neg hn, if_neg hp2, hx]; rfl
      exact ⟨a, b, c, d, true, 0, e1, Or.inr (Or.inr ⟨rfl, rfl, rfl, e2, ms2, rfl⟩)⟩

end Go.Proofs.YtigojnpjpagfjaaDoor.M

namespace Go.Proofs.YtigojnpjpagfjaaDoor.M
open Go.ChangeShapes Go.WideShapes Go.ChangeAt Go.RowKit

set_option linter.unusedSimpArgs false in
set_option maxRecDepth 20000 in
set_option maxHeartbeats 16000000 in
theorem walk_PlanSafe (w : World) (ht : Tab w) (p : Option Addr) (n c : Nat) (ms : List Mb) (hr : RdM w p n c ms) (al : Nat) (hal : al < 18446744073709551616) (h0 h1 h2 h3 h4 h5 v0 v1 v2 : Int) (hv : (v0 ≤ 9223372036854775807 ∧ v1 ≤ 9223372036854775807) ∧ v2 ≤ 9223372036854775807) :
    Calls Tryd.prog 7 #[.slice p n c, .int .u64 (al : Int), .agg #[.int .i64 h0, .int .i64 h1, .int .i64 h2, .int .i64 h3, .int .i64 h4, .int .i64 h5], .agg #[.int .i64 v0, .int .i64 v1, .int .i64 v2]] w fun r w' => r = .returned (.bool true) ∧ Below w.heap.size w w' := by
  have hb0 : Below w.heap.size w ((w.alloc (.cells #[.int .i64 h0, .int .i64 h1, .int .i64 h2, .int .i64 h3, .int .i64 h4, .int .i64 h5] 23)).alloc (.cells #[.int .i64 v0, .int .i64 v1, .int .i64 v2] 25)) := ((Below.refl _ _).alloc (Nat.le_refl _) _).alloc (by simp) _
  have hH : At 23 ((w.alloc (.cells #[.int .i64 h0, .int .i64 h1, .int .i64 h2, .int .i64 h3, .int .i64 h4, .int .i64 h5] 23)).alloc (.cells #[.int .i64 v0, .int .i64 v1, .int .i64 v2] 25)) w.heap.size #[.int .i64 h0, .int .i64 h1, .int .i64 h2, .int .i64 h3, .int .i64 h4, .int .i64 h5] := (At.new 23 w _).alloc _
  have hV : At 25 ((w.alloc (.cells #[.int .i64 h0, .int .i64 h1, .int .i64 h2, .int .i64 h3, .int .i64 h4, .int .i64 h5] 23)).alloc (.cells #[.int .i64 v0, .int .i64 v1, .int .i64 v2] 25)) (w.heap.size + 1) #[.int .i64 v0, .int .i64 v1, .int .i64 v2] := At.moved (by simp) (At.new 25 _ _)
  have hr0 := hr.below hb0
  have ht0 := ht.below hb0
  have hA := fun W hx => awake_any W hx
  have hl := hr.len
  generalize hw : w.heap.size = b at *
  by_cases hn60 : 60 < n
  · have hni : (60 : Int) < (n : Int) := by omega
    clear hr hr0 hl
    go_enter Tryd.func7, Tryd.ntmps7
    go_wp2_with fail
    refine (hA _ ht0).mono ?_
    rintro r9 w9 ⟨rfl, hb9⟩
    go_wp2_with fail
    go_ret
    exact ⟨rfl, hb0.trans (hb9.mono (by have := hb0.size; omega))⟩
  have hni : ¬ (60 : Int) < (n : Int) := by omega
  have hdn : decide ((60 : Int) < (n : Int)) = false := decide_eq_false hni
  obtain ⟨R, HF, hR⟩ := first_is n ms hl (by omega)
  rcases hR with rfl | ⟨M, rfl, hk, hMl⟩
  · have g1 := New_bad p n c ms _ hr0 HF
    clear hr hr0 hl HF
    go_enter Tryd.func7, Tryd.ntmps7
    go_wp2_with fail
    refine g1.mono ?_
    rintro o w1 ⟨rfl, hb1⟩
    have hB1 := hb0.trans (hb1.mono (by have := hb0.size; omega))
    have ht1 := ht0.below hb1
    clear g1 hb1 hb0 ht0
    go_wp2_with fail
    refine (hA _ ht1).mono ?_
    rintro r9 w9 ⟨rfl, hb9⟩
    go_wp2_with fail
    go_ret
    exact ⟨rfl, hB1.trans (hb9.mono (by have := hB1.size; omega))⟩
  have g1 := New_ok p n c ms _ hr0 M HF
  obtain ⟨l0, e2, ms2, hst0⟩ := Steps.there (al := al) (hs := [h0, h1, h2, h3, h4, h5]) (vs := [v0, v1, v2]) (muA al M + 1) hk (Nat.lt_succ_self _)
  have Hst : Hid (Steps al [h0, h1, h2, h3, h4, h5] [v0, v1, v2] 1 M l0 e2 ms2) := hst0
  have HFi : Hid (FirstIs n ms (.ok (1, M))) := HF
  have Hk : Hid (chk 1 M = true) := hk
  have Hl : Hid (ms.length = n) := hl
  clear hst0 HF hk hl hMl hr
  go_enter Tryd.func7, Tryd.ntmps7
  go_wp2_with fail
  (try rw [hw])
  obtain ⟨wB, HwB⟩ : ∃ z, Hid (((w.alloc (.cells #[.int .i64 h0, .int .i64 h1, .int .i64 h2, .int .i64 h3, .int .i64 h4, .int .i64 h5] 23)).alloc (.cells #[.int .i64 v0, .int .i64 v1, .int .i64 v2] 25)) = z) := ⟨_, rfl⟩
  rw [HwB.out] at g1 hb0 hH hV hr0 ht0 ⊢
  have hsB : wB.heap.size = b + 2 := by rw [← HwB.out, ← hw]; simp
  clear HwB
  refine g1.mono ?_
  rintro o w1 ⟨v, rfl, g, r, rfl, hL1, hg, hrr, hb1⟩
  have hI0 : SafeI al [h0, h1, h2, h3, h4, h5] [v0, v1, v2] wB g e2 ms2 0 w1 := ⟨r, _, l0, hL1, PL.first_ok Hk, hrr, by show (0 : Int) ≤ _; omega, by rw [Nat.zero_add]; exact mu_le Hk.out, Hst.out, hb1⟩
  have HsB : Hid (wB.heap.size = b + 2) := hsB
  have Hg : Hid (wB.heap.size ≤ g) := hg
  have Hhw : Hid (w.heap.size = b) := hw
  clear g1 hL1 hrr hb1 hsB hg hw
  go_wp2_with fail
  go_loopw [35] (fun i wr => ∃ k : Nat, i = .int .i64 k ∧ SafeI al [h0, h1, h2, h3, h4, h5] [v0, v1, v2] wB g e2 ms2 k wr) (fun i _ => 14 - (intOf i).toNat)
  case atStart => exact ⟨0, rfl, hI0⟩
  case round =>
    clear hI0
    obtain ⟨k, rfl, r, s, l, hL, hok, hrB, hat, hmu, hst, hb⟩ := hrel
    have hk14 : (k : Int) < 14 := by omega
    have Hok : Hid s.ok := hok
    have HSt : Hid (Steps al [h0, h1, h2, h3, h4, h5] [v0, v1, v2] s.e s.ms l e2 ms2) := hst
    have Hmu : Hid (k + muA al s.ms ≤ 12) := hmu
    have Hat : Hid (s.at_ ≤ 7 * (k : Int)) := hat
    have hm6 := (chk_parts hok.chk).2.2.2
    have cCh := Chain_any g r s wr hL hm6
    have hfm := field_m
    clear hok hst hmu hat
    go_wp2_with fail
    refine cCh.mono ?_
    rintro o w2 ⟨v, rfl, q, d, rfl, hR2, hq2, hb2⟩
    have hBw : wB.heap.size ≤ wr.heap.size := hb.size
    have hI : ReadI al wB g q d s.ms s.e s.at_ 0 w2 := ⟨r, s, hL.below hb2, Hok.out, rfl, (rdJ_zero _ _).symm, by show _ ≤ s.at_ + (0 : Int); omega, hrB, hb.trans (hb2.mono hBw), hR2, fun a ha h0 => by have h1 := hq2 a ha h0; obtain ⟨bc, y, H, hLB, _⟩ := hL; have h2 := hLB.blk.lt; have h3 := hLB.lr; exact ⟨by omega, by omega⟩⟩
    obtain ⟨m0, Hm0⟩ : ∃ z, Hid (s.ms = z) := ⟨_, rfl⟩
    obtain ⟨e0, He0⟩ : ∃ z, Hid (s.e = z) := ⟨_, rfl⟩
    obtain ⟨at0, Hat0⟩ : ∃ z, Hid (s.at_ = z) := ⟨_, rfl⟩
    have Hck : Hid (chk s.e s.ms = true) := Hok.out.chk
    rw [Hm0.out] at hI Hmu HSt hm6 Hck ⊢
    rw [He0.out] at hI HSt Hck ⊢
    rw [Hat0.out] at hI Hat
    obtain ⟨mn, Hmn⟩ : ∃ z, Hid (m0.length = z) := ⟨_, rfl⟩
    rw [Hmn.out] at hm6 ⊢
    have hat0 : 0 ≤ at0 ∧ at0 ≤ 100 := by rw [← Hat0.out]; have h1 := Hok.out.at0; have h2 := Hat.out; rw [← Hat0.out] at h2; exact ⟨h1, by omega⟩
    clear cCh hL hrB hb hR2 hq2 hb2 hBw Hok Hm0 He0 Hat0
    go_wp2_with fail
    clear hfm
    go_loopw [41] (fun ix wr => ∃ j : Nat, j ≤ mn ∧ ix = .int .i64 j ∧ ReadI al wB g q d m0 e0 at0 j wr) (fun ix _ => mn - (intOf ix).toNat)
    case atStart => exact ⟨0, Nat.zero_le _, rfl, hI⟩
    case round =>
      clear hI
      obtain ⟨j, hj, rfl, r, s, hL, hok, he, hms, hat, hrB, hb, hRq, hqf⟩ := hrel
      by_cases hjn : j < mn
      · have hlt : (j : Int) < (mn : Int) := by omega
        rw [Hmn.out] at hRq hqf
        obtain ⟨bq, oq, rfl, hcc⟩ := hRq.cells (by omega)
        obtain ⟨x1, x2, x3⟩ := hcc j hjn
        have HSR : Hid ((m0.getD j .z0).f = true → hasN al (m0.getD j .z0).n = true → cmdOk 4 (m0.getD j .z0).n 0 s.e = true ∧ ∃ H, s.app (s.at_ + 1) (putAll [4, (m0.getD j .z0).n, 0, s.e]) = (0, ⟨s.e, rdJ al m0 (j + 1), s.at_ + 1, H⟩)) := fun h1 h2 => safe_ready (by rw [Hmn.out]; exact hjn) hms hok.chk (by omega) h1 h2
        have HSS : Hid (((m0.getD j .z0).f && hasN al (m0.getD j .z0).n) = false → rdJ al m0 (j + 1) = rdJ al m0 j) := safe_skip (by rw [Hmn.out]; exact hjn)
        obtain ⟨xn, Hxn⟩ : ∃ z, Hid ((m0.getD j .z0).n = z) := ⟨_, rfl⟩
        obtain ⟨xs, Hxs⟩ : ∃ z, Hid ((m0.getD j .z0).s = z) := ⟨_, rfl⟩
        obtain ⟨xf, Hxf⟩ : ∃ z, Hid ((m0.getD j .z0).f = z) := ⟨_, rfl⟩
        rw [Hxn.out] at x1 HSR HSS
        rw [Hxs.out] at x2
        rw [Hxf.out] at x3 HSR HSS
        have hbx := below_alloc wr (.cells #[.int .i64 xn, .int .i64 xs, .bool xf] 45)
        have hX := At.new 45 wr #[.int .i64 xn, .int .i64 xs, .bool xf]
        have hL2 := hL.below hbx
        have hRq2 := hRq.below hbx
        have hb2 := hb.trans (hbx.mono hb.size)
        have hHa := fun W => has_any al xn W hal
        have Hok : Hid s.ok := hok
        have Hms : Hid (s.ms = rdJ al m0 j) := hms
        have He : Hid (s.e = e0) := he
        have HRq : Hid (RdM (wr.alloc (.cells #[.int .i64 xn, .int .i64 xs, .bool xf] 45)) (some ⟨bq, oq, none⟩) mn d m0) := hRq2
        have Hqf : Hid (∀ a, some (⟨bq, oq, none⟩ : Addr) = some a → 0 < mn → a.block ≠ g ∧ a.block ≠ r) := hqf
        obtain ⟨hx0, hx1, hx2⟩ := hX.three
        have hsat := hok.at0
        clear hcc Hxn Hxs Hxf hL hRq hRq2 hqf hbx hb hok hms he
        cases xf with
        | false =>
          have HE := HSS.out rfl
          have HEE : Hid (rdJ al m0 (j + 1) = rdJ al m0 j) := HE
          clear HE HSS HSR hHa
          go_wp2_with fail
          go_roundw
          case rel => exact ⟨j + 1, by omega, by go_num, r, s, hL2, Hok.out, He.out, by rw [HEE.out]; exact Hms.out, by omega, hrB, hb2, by rw [Hmn.out]; exact HRq.out, by rw [Hmn.out]; exact Hqf.out⟩
          case measure => simp [intOf]; omega
        | true =>
          cases hh : hasN al xn with
          | false =>
            have HEE : Hid (rdJ al m0 (j + 1) = rdJ al m0 j) := HSS.out (by rw [hh]; rfl)
            rw [hh] at hHa
            clear HSS HSR hh
            go_wp2_with fail
            refine (hHa _).mono ?_
            rintro o w3 ⟨rfl, hw3⟩
            subst hw3
            clear hHa
            go_wp2_with fail
            go_roundw
            case rel => exact ⟨j + 1, by omega, by go_num, r, s, hL2, Hok.out, He.out, by rw [HEE.out]; exact Hms.out, by omega, hrB, hb2, by rw [Hmn.out]; exact HRq.out, by rw [Hmn.out]; exact Hqf.out⟩
            case measure => simp [intOf]; omega
          | true =>
            obtain ⟨hcm, H', happ⟩ := HSR.out rfl hh
            have Happ : Hid (s.app (s.at_ + 1) (putAll [4, xn, 0, s.e]) = (0, ⟨s.e, rdJ al m0 (j + 1), s.at_ + 1, H'⟩)) := happ
            rw [hh] at hHa
            clear HSS HSR hh happ
            go_wp2_with fail
            refine (hHa _).mono ?_
            rintro o w3 ⟨rfl, hw3⟩
            subst hw3
            clear hHa hx0 hx1 hx2
            go_wp2_with fail
            generalize (wr.alloc (.cells #[.int .i64 xn, .int .i64 xs, .bool true] 45)) = w0 at *
            generalize wr.heap.size = gx at *
            have hl6s : s.ms.length ≤ 6 := (chk_parts Hok.out.chk).2.2.2
            have cCh : ∀ V, Below w0.heap.size w0 V → Calls Tryd.prog 24 #[.pointer (some ⟨g, 0, none⟩)] V fun o w' => ∃ v, o = .returned v ∧ ∃ q7 d7, v = .agg #[.int .i64 e0, .slice q7 s.ms.length d7] ∧ RdM w' q7 s.ms.length d7 s.ms ∧ Below V.heap.size V w' := fun V hV => (Chain_any g r s V (hL2.below hV) hl6s).mono (by
              rintro o w' ⟨v, h1, q7, d7, h2, h3, _, h5⟩
              rw [He.out] at h2
              exact ⟨v, h1, q7, d7, h2, h3, h5⟩)
            rw [He.out] at hcm Happ
            have hL28 := putAll_len (l := [4, xn, 0, e0]) (wd4 hcm)
            have hBy := putAll_by [4, xn, 0, e0]
            have cPu : ∀ V, Calls Tryd.prog 26 #[.agg #[.int .i64 4, .int .i64 xn, .int .i64 0, .int .i64 e0]] V fun o w' => ∃ v, o = .returned v ∧ ∃ p8 c8, v = .tuple #[.slice p8 (putAll [4, xn, 0, e0]).length c8, .int .i64 0] ∧ Rd .u8 w' p8 (putAll [4, xn, 0, e0]).length c8 (putAll [4, xn, 0, e0]) ∧ Below V.heap.size V w' := fun V => (lPut_ok 4 xn 0 e0 V hcm).mono (by
              rintro o w' ⟨v, h1, p8, c8, h2, h3, h5⟩
              exact ⟨v, h1, p8, c8, h2, h3.rd, h5⟩)
            generalize (putAll [4, xn, 0, e0]) = xs8 at *
            have hln : xs8.length ≤ 1099511627776 := by have : (4 : Nat) = [(4 : Int), xn, 0, e0].length := rfl; omega
            generalize hln8 : xs8.length = ln at *
            clear hln8 hL28
            have hCd : ∀ W, Bl w0 W → (fun W : World => At 45 W gx #[.int .i64 xn, .int .i64 xs, .bool true]) W := fun W h => hX.below (Bl.out0 h)
            generalize hsl : s.ms.length = sl at *
            clear hl6s hsl
            refine wp_region_det [0, 1, 2, 4, 5, 7, 8, 9, 10, 11] (fun W => At 45 W gx #[.int .i64 xn, .int .i64 xs, .bool true]) (AwC w0 NoC NoC) (by kernel_rfl) ⟨(Below.refl _ _).drew, trivial, trivial⟩ ?_
            refine wpDet_take ?vZ47 (AwC.stays NoC.stays NoC.stays) (fun _ h => hCd _ h.1) (i := 0) rfl (by kernel_rfl) (by kernel_rfl) (by kernel_rfl) (by kernel_rfl) (fun _ _ _ h => h) (Gives.value (by rfl) ?yZ47) ?rZ47
            case yZ47 => (intro w' hSw; go_simp; try with_reducible rfl)
            (try simp only [Act.put, List.getElem_toArray, List.getElem_cons_zero, List.getElem_cons_succ, List.setIfInBounds_toArray, List.set_cons_zero, List.set_cons_succ])
            refine wpDet_take ?vZ48 (AwC.stays NoC.stays NoC.stays) (fun _ h => hCd _ h.1) (i := 1) rfl (by kernel_rfl) (by kernel_rfl) (by kernel_rfl) (by kernel_rfl) (fun _ _ _ h => h) (Gives.value (by rfl) ?yZ48) ?rZ48
            case yZ48 => (intro w' hSw; obtain ⟨z0, z1, z2⟩ := At.three hSw; clear hSw; go_simp; try with_reducible rfl)
            (try simp only [Act.put, List.getElem_toArray, List.getElem_cons_zero, List.getElem_cons_succ, List.setIfInBounds_toArray, List.set_cons_zero, List.set_cons_succ])
            refine wpDet_take ?vZ49 (AwC.stays NoC.stays NoC.stays) (fun _ h => hCd _ h.1) (i := 2) rfl (by kernel_rfl) (by kernel_rfl) (by kernel_rfl) (by kernel_rfl) (fun _ _ _ h => h) (Gives.value (by rfl) ?yZ49) ?rZ49
            case yZ49 => (intro w' hSw; go_simp; try with_reducible rfl)
            (try simp only [Act.put, List.getElem_toArray, List.getElem_cons_zero, List.getElem_cons_succ, List.setIfInBounds_toArray, List.set_cons_zero, List.set_cons_succ])
            refine wpDet_ready (rs := [3]) (by kernel_rfl) (by simp) (AllDet.cons rfl (fun V hV K hK => ?_) AllDet.nil)
            rw [if_pos (by rfl)]
            refine wp_enterE 24 #[.pointer (some ⟨g, 0, none⟩)] (by first | (go_simp; done) | (go_simp; rfl)) _ (cCh V (Bl.out0 hV.1)) ?_
            rintro v7 V7 ⟨q7, d7, rfl, _, hb7⟩
            refine hK.out (AwC w0 NoC NoC) _ _ (AwC.stays NoC.stays NoC.stays) (fun _ _ h => hCd _ h.1) ⟨Bl.stays w0 V _ hV.1 hb7, trivial, trivial⟩ ?_
            clear hK K hV hb7
            (try simp only [Act.put, List.getElem_toArray, List.getElem_cons_zero, List.getElem_cons_succ, List.setIfInBounds_toArray, List.set_cons_zero, List.set_cons_succ])
            refine wpDet_take ?vZ50 (AwC.stays NoC.stays NoC.stays) (fun _ h => hCd _ h.1) (i := 4) rfl (by kernel_rfl) (by kernel_rfl) (by kernel_rfl) (by kernel_rfl) (fun _ _ _ h => h) (Gives.value (by rfl) ?yZ50) ?rZ50
            case yZ50 => (intro w' hSw; have hfe := field_e; go_simp; try with_reducible rfl)
            (try simp only [Act.put, List.getElem_toArray, List.getElem_cons_zero, List.getElem_cons_succ, List.setIfInBounds_toArray, List.set_cons_zero, List.set_cons_succ])
            refine wpDet_take ?vZ51 (AwC.stays NoC.stays NoC.stays) (fun _ h => hCd _ h.1) (i := 5) rfl (by kernel_rfl) (by kernel_rfl) (by kernel_rfl) (by kernel_rfl) (fun _ _ _ h => h) (Gives.value (by rfl) ?yZ51) ?rZ51
            case yZ51 => (intro w' hSw; go_simp; try with_reducible rfl)
            (try simp only [Act.put, List.getElem_toArray, List.getElem_cons_zero, List.getElem_cons_succ, List.setIfInBounds_toArray, List.set_cons_zero, List.set_cons_succ])
            refine wpDet_ready (rs := [6]) (by kernel_rfl) (by simp) (AllDet.cons rfl (fun V hV K hK => ?_) AllDet.nil)
            rw [if_pos (by rfl)]
            refine wp_enterE 26 #[.agg #[.int .i64 4, .int .i64 xn, .int .i64 0, .int .i64 e0]] (by first | (go_simp; done) | (go_simp; rfl)) _ (cPu V) ?_
            rintro v7 V7 ⟨p8, c8, rfl, hO8, hb7⟩
            refine hK.out (AwC w0 (OwB p8 ln c8 xs8) NoC) _ _ (AwC.stays (OwB.stays p8 ln c8 xs8) NoC.stays) (fun _ _ h => hCd _ h.1) ⟨Bl.stays w0 V _ hV.1 hb7, hO8, trivial⟩ ?_
            clear hK K hV hb7 hO8
            (try simp only [Act.put, List.getElem_toArray, List.getElem_cons_zero, List.getElem_cons_succ, List.setIfInBounds_toArray, List.set_cons_zero, List.set_cons_succ])
            refine wpDet_take ?vZ52 (AwC.stays (OwB.stays p8 ln c8 xs8) NoC.stays) (fun _ h => hCd _ h.1) (i := 7) rfl (by kernel_rfl) (by kernel_rfl) (by kernel_rfl) (by kernel_rfl) (fun _ _ _ h => h) (Gives.value (by rfl) ?yZ52) ?rZ52
            case yZ52 => (intro w' hSw; go_simp; try with_reducible rfl)
            (try simp only [Act.put, List.getElem_toArray, List.getElem_cons_zero, List.getElem_cons_succ, List.setIfInBounds_toArray, List.set_cons_zero, List.set_cons_succ])
            refine wpDet_take ?vZ53 (AwC.stays (OwB.stays p8 ln c8 xs8) NoC.stays) (fun _ h => hCd _ h.1) (i := 8) rfl (by kernel_rfl) (by kernel_rfl) (by kernel_rfl) (by kernel_rfl) (fun _ _ _ h => h) (Gives.value (by rfl) ?yZ53) ?rZ53
            case yZ53 => (intro w' hSw; go_simp; try with_reducible rfl)
            (try simp only [Act.put, List.getElem_toArray, List.getElem_cons_zero, List.getElem_cons_succ, List.setIfInBounds_toArray, List.set_cons_zero, List.set_cons_succ])
            refine wpDet_take ?vZ54 (AwC.stays (OwB.stays p8 ln c8 xs8) NoC.stays) (fun _ h => hCd _ h.1) (i := 9) rfl (by kernel_rfl) (by kernel_rfl) (by kernel_rfl) (by kernel_rfl) (fun _ _ _ h => h) (Gives.value (by rfl) ?yZ54) ?rZ54
            case yZ54 => (intro w' hSw; go_simp; try with_reducible rfl)
            (try simp only [Act.put, List.getElem_toArray, List.getElem_cons_zero, List.getElem_cons_succ, List.setIfInBounds_toArray, List.set_cons_zero, List.set_cons_succ])
            refine wpDet_take ?vZ55 (AwC.stays (OwB.stays p8 ln c8 xs8) NoC.stays) (fun _ h => hCd _ h.1) (i := 10) rfl (by kernel_rfl) (by kernel_rfl) (by kernel_rfl) (by kernel_rfl) (fun _ _ _ h => h) (Gives.value (by rfl) ?yZ55) ?rZ55
            case yZ55 => (intro w' hSw; go_simp; try with_reducible rfl)
            (try simp only [Act.put, List.getElem_toArray, List.getElem_cons_zero, List.getElem_cons_succ, List.setIfInBounds_toArray, List.set_cons_zero, List.set_cons_succ])
            refine wpDet_take ?vZ56 (AwC.stays (OwB.stays p8 ln c8 xs8) NoC.stays) (fun _ h => hCd _ h.1) (i := 11) rfl (by kernel_rfl) (by kernel_rfl) (by kernel_rfl) (by kernel_rfl) (fun _ _ _ h => h) (Gives.value (by rfl) ?yZ56) ?rZ56
            case yZ56 => (intro w' hSw; go_simp; try with_reducible rfl)
            (try simp only [Act.put, List.getElem_toArray, List.getElem_cons_zero, List.getElem_cons_succ, List.setIfInBounds_toArray, List.set_cons_zero, List.set_cons_succ])
            refine wpDet_done (by kernel_rfl) (fun W3 hW3 => ?_) _

            obtain ⟨hB3, hR8, _⟩ := hW3
            have hb3 := Bl.out0 hB3
            have hL3 := hL2.below hb3
            have cAt := At_any g r s W3 hL3
            have cAp := Apply_any g r s W3 hL3 Hok.out (s.at_ + 1) p8 ln c8 xs8 hR8 hBy hln
            rw [Happ.out] at cAp
            have hwi : IntKind.i64.wrap (s.at_ + 1) = s.at_ + 1 := by rw [IntKind.wrap_i64]; omega
            have hb4 := hb2.trans (hb3.mono hb2.size)
            have HRq3 : Hid (RdM W3 (some ⟨bq, oq, none⟩) mn d m0) := HRq.out.below hb3
            clear cCh cPu hCd hX hB3 hR8 hb3 HRq
            go_wp2_with fail
            refine cAt.mono ?_
            rintro o w4 ⟨rfl, hw4⟩
            subst hw4
            clear cAt
            go_wp2_with fail
            refine cAp.mono ?_
            rintro o w5 ⟨rfl, hAf, hEx⟩
            obtain ⟨r', hr', hL5⟩ := hAf
            have hszg : wB.heap.size ≤ w4.heap.size := hb4.size
            have hb5 := hb4.trans (hEx.below Hg.out hrB hszg)
            have hR5 := HRq3.out.ex2 hEx (fun a ha h0 => Hqf.out a ha h0)
            have hrB' : wB.heap.size ≤ r' := by rcases hr' with rfl | h <;> omega
            have hqf5 : ∀ a, some (⟨bq, oq, none⟩ : Addr) = some a → 0 < mn → a.block ≠ g ∧ a.block ≠ r' := fun a ha h0 => ⟨(Hqf.out a ha h0).1, by
              rcases hr' with rfl | h
              · exact (Hqf.out a ha h0).2
              · have := rd_lt HRq3.out ha h0; omega⟩
            have hok5 : (⟨s.e, rdJ al m0 (j + 1), s.at_ + 1, H'⟩ : PL).ok := by have h1 := PL.app_ok Hok.out (s.at_ + 1) xs8; rw [Happ.out, ← He.out] at h1; exact h1
            rw [← He.out] at hL5
            clear cAp hEx hr'
            go_wp2_with fail
            go_roundw
            case rel => exact ⟨j + 1, by omega, by go_num, r', ⟨s.e, rdJ al m0 (j + 1), s.at_ + 1, H'⟩, hL5, hok5, He.out, rfl, by show s.at_ + 1 ≤ _; omega, hrB', hb5, by rw [Hmn.out]; exact hR5, by rw [Hmn.out]; exact hqf5⟩
            case measure => simp [intOf]; omega
      · have hjm : j = mn := by omega
        have hms2 : s.ms = m0.map (fl al) := by rw [hms, hjm, rdJ_end (Nat.le_of_eq Hmn.out)]
        have hjlt : ¬ (j : Int) < (mn : Int) := by omega
        have hdj : decide ((j : Int) < (mn : Int)) = false := decide_eq_false hjlt
        have hrdA : readyA al e0 m0 = s.ms := by rw [hms2]; exact readyA_map Hck.out
        have hck : chk s.e s.ms = true := hok.chk
        have hat2 : s.at_ ≤ at0 + 6 := by omega
        obtain ⟨k0, k1, k2, k3, ok, er, hpn, hcase⟩ := pn_cases (al := al) (hs := [h0, h1, h2, h3, h4, h5]) (vs := [v0, v1, v2]) hck
        have Hcase : Hid ((planC [h0, h1, h2, h3, h4, h5] [v0, v1, v2] = false ∧ er = 1) ∨ (planC [h0, h1, h2, h3, h4, h5] [v0, v1, v2] = true ∧ er = 0 ∧ ok = false ∧ nextR al [h0, h1, h2, h3, h4, h5] [v0, v1, v2] s.e s.ms = none) ∨ (planC [h0, h1, h2, h3, h4, h5] [v0, v1, v2] = true ∧ er = 0 ∧ ok = true ∧ ∃ e2 ms2, nextR al [h0, h1, h2, h3, h4, h5] [v0, v1, v2] s.e s.ms = some (⟨k0, k1, k2, k3⟩, e2, ms2))) := hcase
        have hl6s : s.ms.length ≤ 6 := (chk_parts hck).2.2.2
        have cCh : ∀ V, Below wr.heap.size wr V → Calls Tryd.prog 24 #[.pointer (some ⟨g, 0, none⟩)] V fun o w' => ∃ v, o = .returned v ∧ ∃ q7 d7, v = .agg #[.int .i64 s.e, .slice q7 s.ms.length d7] ∧ RdM w' q7 s.ms.length d7 s.ms ∧ Below V.heap.size V w' := fun V hV => (Chain_any g r s V (hL.below hV) hl6s).mono (by
          rintro o w' ⟨v, h1, q7, d7, h2, h3, _, h5⟩
          exact ⟨v, h1, q7, d7, h2, h3, h5⟩)
        have cNx : ∀ V q7 d7, RdM V q7 s.ms.length d7 s.ms → Below wr.heap.size wr V → Calls Tryd.prog 14 #[.agg #[.int .i64 s.e, .slice q7 s.ms.length d7], .int .u64 (al : Int), .agg #[.int .i64 h0, .int .i64 h1, .int .i64 h2, .int .i64 h3, .int .i64 h4, .int .i64 h5], .agg #[.int .i64 v0, .int .i64 v1, .int .i64 v2]] V fun o w' => o = .returned (.tuple #[.agg #[.int .i64 k0, .int .i64 k1, .int .i64 k2, .int .i64 k3], .bool ok, .int .i64 er]) ∧ Below V.heap.size V w' := fun V q7 d7 hx1 hx2 => by
          have := pNext_any s.e q7 s.ms.length d7 s.ms al h0 h1 h2 h3 h4 h5 v0 v1 v2 hv V hal hx1 (by omega) (ht0.below (hb.trans (hx2.mono hb.size)))
          rw [hpn] at this
          exact this
        have hCd : ∀ W, Bl wr W → (fun W : World => At 23 W b #[.int .i64 h0, .int .i64 h1, .int .i64 h2, .int .i64 h3, .int .i64 h4, .int .i64 h5] ∧ At 25 W (b + 1) #[.int .i64 v0, .int .i64 v1, .int .i64 v2]) W := fun W h => ⟨hH.below (hb.trans ((Bl.out0 h).mono hb.size)), hV.below (hb.trans ((Bl.out0 h).mono hb.size))⟩
        have Hok : Hid s.ok := hok
        have Hrd : Hid (readyA al e0 m0 = s.ms) := hrdA
        have He : Hid (s.e = e0) := he
        obtain ⟨se, Hse⟩ : ∃ z, Hid (s.e = z) := ⟨_, rfl⟩
        obtain ⟨sm, Hsm⟩ : ∃ z, Hid (s.ms = z) := ⟨_, rfl⟩
        obtain ⟨sn, Hsn⟩ : ∃ z, Hid (sm.length = z) := ⟨_, rfl⟩
        rw [Hsm.out, Hse.out, Hsn.out] at cCh cNx
        obtain ⟨w0, Hw0⟩ : ∃ z, Hid (wr = z) := ⟨_, rfl⟩
        rw [Hw0.out] at cCh cNx hCd hb hL ⊢
        have HatS : Hid (s.at_ ≤ at0 + 6) := hat2
        clear hms hjm hms2 hrdA hck hpn hcase hRq hqf hok he hat hat2 hl6s Hw0 hj hjn
        go_wp2_with fail
        apply wp_meet3 (R := fun x _ _ W => w0.heap.size ≤ x ∧ Below w0.heap.size w0 W ∧ At 37 W x #[.int .i64 k0, .int .i64 k1, .int .i64 k2, .int .i64 k3])
        · refine wp_region_det [0, 2, 3, 4, 6, 7, 8, 9, 12, 13] (fun W => At 23 W b #[.int .i64 h0, .int .i64 h1, .int .i64 h2, .int .i64 h3, .int .i64 h4, .int .i64 h5] ∧ At 25 W (b + 1) #[.int .i64 v0, .int .i64 v1, .int .i64 v2]) (AwC w0 NoC NoC) (by kernel_rfl) ⟨(Below.refl _ _).drew, trivial, trivial⟩ ?_
          refine wpDet_take ?vZ1 (AwC.stays NoC.stays NoC.stays) (fun _ h => hCd _ h.1) (i := 0) rfl (by kernel_rfl) (by kernel_rfl) (by kernel_rfl) (by kernel_rfl) (fun _ _ _ h => h) (Gives.value (by rfl) ?yZ1) ?rZ1
          case yZ1 => (intro w' hSw; go_simp; try with_reducible rfl)
          (try simp only [Act.put, List.getElem_toArray, List.getElem_cons_zero, List.getElem_cons_succ, List.setIfInBounds_toArray, List.set_cons_zero, List.set_cons_succ])
          refine wpDet_take ?vZ2 (AwC.stays NoC.stays NoC.stays) (fun _ h => hCd _ h.1) (i := 2) rfl (by kernel_rfl) (by kernel_rfl) (by kernel_rfl) (by kernel_rfl) (fun _ _ _ h => h) (Gives.value (by rfl) ?yZ2) ?rZ2
          case yZ2 => (intro w' hSw; go_simp; try with_reducible rfl)
          (try simp only [Act.put, List.getElem_toArray, List.getElem_cons_zero, List.getElem_cons_succ, List.setIfInBounds_toArray, List.set_cons_zero, List.set_cons_succ])
          refine wpDet_take ?vZ3 (AwC.stays NoC.stays NoC.stays) (fun _ h => hCd _ h.1) (i := 3) rfl (by kernel_rfl) (by kernel_rfl) (by kernel_rfl) (by kernel_rfl) (fun _ _ _ h => h) (Gives.value (by rfl) ?yZ3) ?rZ3
          case yZ3 => (intro w' hSw; obtain ⟨⟨m0, m1, m2, m3, m4, m5⟩, n0, n1, n2⟩ := (⟨At.six hSw.1, At.three hSw.2⟩ : _ ∧ _); clear hSw; go_simp; try with_reducible rfl)
          (try simp only [Act.put, List.getElem_toArray, List.getElem_cons_zero, List.getElem_cons_succ, List.setIfInBounds_toArray, List.set_cons_zero, List.set_cons_succ])
          refine wpDet_take ?vZ4 (AwC.stays NoC.stays NoC.stays) (fun _ h => hCd _ h.1) (i := 4) rfl (by kernel_rfl) (by kernel_rfl) (by kernel_rfl) (by kernel_rfl) (fun _ _ _ h => h) (Gives.value (by rfl) ?yZ4) ?rZ4
          case yZ4 => (intro w' hSw; obtain ⟨⟨m0, m1, m2, m3, m4, m5⟩, n0, n1, n2⟩ := (⟨At.six hSw.1, At.three hSw.2⟩ : _ ∧ _); clear hSw; go_simp; try with_reducible rfl)
          (try simp only [Act.put, List.getElem_toArray, List.getElem_cons_zero, List.getElem_cons_succ, List.setIfInBounds_toArray, List.set_cons_zero, List.set_cons_succ])
          refine wpDet_ready (rs := [1, 10]) (by kernel_rfl) (by simp) (AllDet.cons rfl (fun V hV K hK => ?_) (AllDet.cons rfl (fun V hV K hK => ?_) AllDet.nil))
          · rw [if_pos (by rfl)]
            refine wp_enterE 24 #[.pointer (some ⟨g, 0, none⟩)] (by first | (go_simp; done) | (go_simp; rfl)) _ (cCh V (Bl.out0 hV.1)) ?_
            rintro v7 V7 ⟨q, d, rfl, hR1, hb7⟩
            refine hK.out (AwC w0 (MsC q sn d sm) NoC) _ _ (AwC.stays (MsC.stays q sn d sm) NoC.stays) (fun _ _ h => hCd _ h.1) ⟨Bl.stays w0 V _ hV.1 hb7, hR1, NoC.stays _ _ hV.2.2 hb7⟩ ?_
            clear hK K hV hb7 hR1
            (try simp only [Act.put, List.getElem_toArray, List.getElem_cons_zero, List.getElem_cons_succ, List.setIfInBounds_toArray, List.set_cons_zero, List.set_cons_succ])
            refine wpDet_ready (rs := [5, 10]) (by kernel_rfl) (by simp) (AllDet.cons rfl (fun V hV K hK => ?_) (AllDet.cons rfl (fun V hV K hK => ?_) AllDet.nil))
            · rw [if_pos (by rfl)]
              refine wp_enterE 14 #[.agg #[.int .i64 se, .slice q sn d], .int .u64 (al : Int), .agg #[.int .i64 h0, .int .i64 h1, .int .i64 h2, .int .i64 h3, .int .i64 h4, .int .i64 h5], .agg #[.int .i64 v0, .int .i64 v1, .int .i64 v2]] (by first | (go_simp; done) | (go_simp; rfl)) (fun v W => v = .tuple #[.agg #[.int .i64 k0, .int .i64 k1, .int .i64 k2, .int .i64 k3], .bool ok, .int .i64 er] ∧ Below V.heap.size V W) ((cNx V q d hV.2.1 (Bl.out0 hV.1)).mono fun e' w' hh => ⟨_, hh.1, rfl, hh.2⟩) ?_
              rintro v7 V7 ⟨rfl, hb7⟩
              refine hK.out (AwC w0 NoC NoC) _ _ (AwC.stays NoC.stays NoC.stays) (fun _ _ h => hCd _ h.1) ⟨Bl.stays w0 V _ hV.1 hb7, trivial, NoC.stays _ _ hV.2.2 hb7⟩ ?_
              clear hK K hV hb7
              (try simp only [Act.put, List.getElem_toArray, List.getElem_cons_zero, List.getElem_cons_succ, List.setIfInBounds_toArray, List.set_cons_zero, List.set_cons_succ])
              refine wpDet_take ?vZ5 (AwC.stays NoC.stays NoC.stays) (fun _ h => hCd _ h.1) (i := 6) rfl (by kernel_rfl) (by kernel_rfl) (by kernel_rfl) (by kernel_rfl) (fun _ _ _ h => h) (Gives.value (by rfl) ?yZ5) ?rZ5
              case yZ5 => (intro w' hSw; go_simp; try with_reducible rfl)
              (try simp only [Act.put, List.getElem_toArray, List.getElem_cons_zero, List.getElem_cons_succ, List.setIfInBounds_toArray, List.set_cons_zero, List.set_cons_succ])
              refine wpDet_take ?vZ6 (AwC.stays NoC.stays NoC.stays) (fun _ h => hCd _ h.1) (i := 7) rfl (by kernel_rfl) (by kernel_rfl) (by kernel_rfl) (by kernel_rfl) (fun _ _ _ h => h) (Gives.value (by rfl) ?yZ6) ?rZ6
              case yZ6 => (intro w' hSw; go_simp; try with_reducible rfl)
              (try simp only [Act.put, List.getElem_toArray, List.getElem_cons_zero, List.getElem_cons_succ, List.setIfInBounds_toArray, List.set_cons_zero, List.set_cons_succ])
              refine wpDet_take ?vZ7 (AwC.stays NoC.stays NoC.stays) (fun _ h => hCd _ h.1) (i := 8) rfl (by kernel_rfl) (by kernel_rfl) (by kernel_rfl) (by kernel_rfl) (fun _ _ _ h => h) (Gives.value (by rfl) ?yZ7) ?rZ7
              case yZ7 => (intro w' hSw; go_simp; try with_reducible rfl)
              (try simp only [Act.put, List.getElem_toArray, List.getElem_cons_zero, List.getElem_cons_succ, List.setIfInBounds_toArray, List.set_cons_zero, List.set_cons_succ])
              refine wpDet_take ?vZ8 (AwC.stays NoC.stays NoC.stays) (fun _ h => hCd _ h.1) (i := 9) rfl (by kernel_rfl) (by kernel_rfl) (by kernel_rfl) (by kernel_rfl) (fun _ _ _ h => h) (Gives.value (by rfl) ?yZ8) ?rZ8
              case yZ8 => (intro w' hSw; go_simp; try with_reducible rfl)
              (try simp only [Act.put, List.getElem_toArray, List.getElem_cons_zero, List.getElem_cons_succ, List.setIfInBounds_toArray, List.set_cons_zero, List.set_cons_succ])
              refine wpDet_ready (rs := [10]) (by kernel_rfl) (by simp) (AllDet.cons rfl (fun V hV K hK => ?_) AllDet.nil)
              rw [if_pos (by rfl)]
              refine wp_value (.pointer (some ⟨V.heap.size, 0, none⟩)) (V.alloc (.cells #[.int .i64 0, .int .i64 0, .int .i64 0, .int .i64 0] 37)) (by first | (go_simp; done) | (go_simp; rfl)) ?_
              have hxl : w0.heap.size ≤ V.heap.size := (Bl.out0 hV.1).size
              refine hK.out (AwC w0 NoC (CbC V.heap.size)) _ _ (AwC.stays NoC.stays (CbC.stays _)) (fun _ _ h => hCd _ h.1) ⟨Bl.stays w0 V _ hV.1 (below_alloc _ _), NoC.stays _ _ hV.2.1 (below_alloc _ _), At.new _ _ _⟩ ?_
              clear hK K hV
              generalize V.heap.size = x at *
              (try simp only [Act.put, List.getElem_toArray, List.getElem_cons_zero, List.getElem_cons_succ, List.setIfInBounds_toArray, List.set_cons_zero, List.set_cons_succ])
              refine wpDet_ready (rs := [11]) (by kernel_rfl) (by simp) (AllDet.cons rfl (fun V hV K hK => ?_) AllDet.nil)
              rw [if_pos (by rfl)]
              have hAt : At 37 V x #[.int .i64 0, .int .i64 0, .int .i64 0, .int .i64 0] := hV.2.2
              refine wp_store_mid 37 _ _ rfl x 0 #[.int .i64 k0, .int .i64 k1, .int .i64 k2, .int .i64 k3] rfl rfl (there4 hAt) sizeCm (one4 _ _ _ _) ?_
              refine hK.out (AwC w0 NoC (fun W => At 37 W x #[.int .i64 k0, .int .i64 k1, .int .i64 k2, .int .i64 k3])) _ _ (AwC.stays NoC.stays (fun _ _ h hb => h.below hb)) (fun _ _ h => hCd _ h.1) ⟨Below.put4 (Bl.out0 hV.1) hxl _ _ _ _, trivial, hAt.put4 _ _ _ _⟩ ?_
              clear hK K hV hAt
              (try simp only [Act.put, List.getElem_toArray, List.getElem_cons_zero, List.getElem_cons_succ, List.setIfInBounds_toArray, List.set_cons_zero, List.set_cons_succ])
              refine wpDet_take ?vZ9 (AwC.stays NoC.stays (fun _ _ h hb => h.below hb)) (fun _ h => hCd _ h.1) (i := 12) rfl (by kernel_rfl) (by kernel_rfl) (by kernel_rfl) (by kernel_rfl) (fun _ _ _ h => h) (Gives.value (by rfl) ?yZ9) ?rZ9
              case yZ9 => (intro w' hSw; go_simp; try with_reducible rfl)
              (try simp only [Act.put, List.getElem_toArray, List.getElem_cons_zero, List.getElem_cons_succ, List.setIfInBounds_toArray, List.set_cons_zero, List.set_cons_succ])
              refine wpDet_take ?vZ10 (AwC.stays NoC.stays (fun _ _ h hb => h.below hb)) (fun _ h => hCd _ h.1) (i := 13) rfl (by kernel_rfl) (by kernel_rfl) (by kernel_rfl) (by kernel_rfl) (fun _ _ _ h => h) (Gives.value (by rfl) ?yZ10) ?rZ10
              case yZ10 => (intro w' hSw; go_simp; try with_reducible rfl)
              (try simp only [Act.put, List.getElem_toArray, List.getElem_cons_zero, List.getElem_cons_succ, List.setIfInBounds_toArray, List.set_cons_zero, List.set_cons_succ])
              exact wpDet_done (by kernel_rfl) (fun W3 hW3 => ⟨x, q, d, rfl, hxl, Bl.out0 hW3.1, hW3.2.2⟩) _
            · rw [if_pos (by rfl)]
              refine wp_value (.pointer (some ⟨V.heap.size, 0, none⟩)) (V.alloc (.cells #[.int .i64 0, .int .i64 0, .int .i64 0, .int .i64 0] 37)) (by first | (go_simp; done) | (go_simp; rfl)) ?_
              have hxl : w0.heap.size ≤ V.heap.size := (Bl.out0 hV.1).size
              refine hK.out (AwC w0 (MsC q sn d sm) (CbC V.heap.size)) _ _ (AwC.stays (MsC.stays q sn d sm) (CbC.stays _)) (fun _ _ h => hCd _ h.1) ⟨Bl.stays w0 V _ hV.1 (below_alloc _ _), (MsC.stays q sn d sm) _ _ hV.2.1 (below_alloc _ _), At.new _ _ _⟩ ?_
              clear hK K hV
              generalize V.heap.size = x at *
              (try simp only [Act.put, List.getElem_toArray, List.getElem_cons_zero, List.getElem_cons_succ, List.setIfInBounds_toArray, List.set_cons_zero, List.set_cons_succ])
              refine wpDet_ready (rs := [5]) (by kernel_rfl) (by simp) (AllDet.cons rfl (fun V hV K hK => ?_) AllDet.nil)
              rw [if_pos (by rfl)]
              refine wp_enterE 14 #[.agg #[.int .i64 se, .slice q sn d], .int .u64 (al : Int), .agg #[.int .i64 h0, .int .i64 h1, .int .i64 h2, .int .i64 h3, .int .i64 h4, .int .i64 h5], .agg #[.int .i64 v0, .int .i64 v1, .int .i64 v2]] (by first | (go_simp; done) | (go_simp; rfl)) (fun v W => v = .tuple #[.agg #[.int .i64 k0, .int .i64 k1, .int .i64 k2, .int .i64 k3], .bool ok, .int .i64 er] ∧ Below V.heap.size V W) ((cNx V q d hV.2.1 (Bl.out0 hV.1)).mono fun e' w' hh => ⟨_, hh.1, rfl, hh.2⟩) ?_
              rintro v7 V7 ⟨rfl, hb7⟩
              refine hK.out (AwC w0 NoC (CbC x)) _ _ (AwC.stays NoC.stays (CbC.stays x)) (fun _ _ h => hCd _ h.1) ⟨Bl.stays w0 V _ hV.1 hb7, trivial, (CbC.stays x) _ _ hV.2.2 hb7⟩ ?_
              clear hK K hV hb7
              (try simp only [Act.put, List.getElem_toArray, List.getElem_cons_zero, List.getElem_cons_succ, List.setIfInBounds_toArray, List.set_cons_zero, List.set_cons_succ])
              refine wpDet_take ?vZ11 (AwC.stays NoC.stays (CbC.stays x)) (fun _ h => hCd _ h.1) (i := 6) rfl (by kernel_rfl) (by kernel_rfl) (by kernel_rfl) (by kernel_rfl) (fun _ _ _ h => h) (Gives.value (by rfl) ?yZ11) ?rZ11
              case yZ11 => (intro w' hSw; go_simp; try with_reducible rfl)
              (try simp only [Act.put, List.getElem_toArray, List.getElem_cons_zero, List.getElem_cons_succ, List.setIfInBounds_toArray, List.set_cons_zero, List.set_cons_succ])
              refine wpDet_take ?vZ12 (AwC.stays NoC.stays (CbC.stays x)) (fun _ h => hCd _ h.1) (i := 7) rfl (by kernel_rfl) (by kernel_rfl) (by kernel_rfl) (by kernel_rfl) (fun _ _ _ h => h) (Gives.value (by rfl) ?yZ12) ?rZ12
              case yZ12 => (intro w' hSw; go_simp; try with_reducible rfl)
              (try simp only [Act.put, List.getElem_toArray, List.getElem_cons_zero, List.getElem_cons_succ, List.setIfInBounds_toArray, List.set_cons_zero, List.set_cons_succ])
              refine wpDet_take ?vZ13 (AwC.stays NoC.stays (CbC.stays x)) (fun _ h => hCd _ h.1) (i := 8) rfl (by kernel_rfl) (by kernel_rfl) (by kernel_rfl) (by kernel_rfl) (fun _ _ _ h => h) (Gives.value (by rfl) ?yZ13) ?rZ13
              case yZ13 => (intro w' hSw; go_simp; try with_reducible rfl)
              (try simp only [Act.put, List.getElem_toArray, List.getElem_cons_zero, List.getElem_cons_succ, List.setIfInBounds_toArray, List.set_cons_zero, List.set_cons_succ])
              refine wpDet_take ?vZ14 (AwC.stays NoC.stays (CbC.stays x)) (fun _ h => hCd _ h.1) (i := 9) rfl (by kernel_rfl) (by kernel_rfl) (by kernel_rfl) (by kernel_rfl) (fun _ _ _ h => h) (Gives.value (by rfl) ?yZ14) ?rZ14
              case yZ14 => (intro w' hSw; go_simp; try with_reducible rfl)
              (try simp only [Act.put, List.getElem_toArray, List.getElem_cons_zero, List.getElem_cons_succ, List.setIfInBounds_toArray, List.set_cons_zero, List.set_cons_succ])
              refine wpDet_ready (rs := [11]) (by kernel_rfl) (by simp) (AllDet.cons rfl (fun V hV K hK => ?_) AllDet.nil)
              rw [if_pos (by rfl)]
              have hAt : At 37 V x #[.int .i64 0, .int .i64 0, .int .i64 0, .int .i64 0] := hV.2.2
              refine wp_store_mid 37 _ _ rfl x 0 #[.int .i64 k0, .int .i64 k1, .int .i64 k2, .int .i64 k3] rfl rfl (there4 hAt) sizeCm (one4 _ _ _ _) ?_
              refine hK.out (AwC w0 NoC (fun W => At 37 W x #[.int .i64 k0, .int .i64 k1, .int .i64 k2, .int .i64 k3])) _ _ (AwC.stays NoC.stays (fun _ _ h hb => h.below hb)) (fun _ _ h => hCd _ h.1) ⟨Below.put4 (Bl.out0 hV.1) hxl _ _ _ _, trivial, hAt.put4 _ _ _ _⟩ ?_
              clear hK K hV hAt
              (try simp only [Act.put, List.getElem_toArray, List.getElem_cons_zero, List.getElem_cons_succ, List.setIfInBounds_toArray, List.set_cons_zero, List.set_cons_succ])
              refine wpDet_take ?vZ15 (AwC.stays NoC.stays (fun _ _ h hb => h.below hb)) (fun _ h => hCd _ h.1) (i := 12) rfl (by kernel_rfl) (by kernel_rfl) (by kernel_rfl) (by kernel_rfl) (fun _ _ _ h => h) (Gives.value (by rfl) ?yZ15) ?rZ15
              case yZ15 => (intro w' hSw; go_simp; try with_reducible rfl)
              (try simp only [Act.put, List.getElem_toArray, List.getElem_cons_zero, List.getElem_cons_succ, List.setIfInBounds_toArray, List.set_cons_zero, List.set_cons_succ])
              refine wpDet_take ?vZ16 (AwC.stays NoC.stays (fun _ _ h hb => h.below hb)) (fun _ h => hCd _ h.1) (i := 13) rfl (by kernel_rfl) (by kernel_rfl) (by kernel_rfl) (by kernel_rfl) (fun _ _ _ h => h) (Gives.value (by rfl) ?yZ16) ?rZ16
              case yZ16 => (intro w' hSw; go_simp; try with_reducible rfl)
              (try simp only [Act.put, List.getElem_toArray, List.getElem_cons_zero, List.getElem_cons_succ, List.setIfInBounds_toArray, List.set_cons_zero, List.set_cons_succ])
              exact wpDet_done (by kernel_rfl) (fun W3 hW3 => ⟨x, q, d, rfl, hxl, Bl.out0 hW3.1, hW3.2.2⟩) _
          · rw [if_pos (by rfl)]
            refine wp_value (.pointer (some ⟨V.heap.size, 0, none⟩)) (V.alloc (.cells #[.int .i64 0, .int .i64 0, .int .i64 0, .int .i64 0] 37)) (by first | (go_simp; done) | (go_simp; rfl)) ?_
            have hxl : w0.heap.size ≤ V.heap.size := (Bl.out0 hV.1).size
            refine hK.out (AwC w0 NoC (CbC V.heap.size)) _ _ (AwC.stays NoC.stays (CbC.stays _)) (fun _ _ h => hCd _ h.1) ⟨Bl.stays w0 V _ hV.1 (below_alloc _ _), NoC.stays _ _ hV.2.1 (below_alloc _ _), At.new _ _ _⟩ ?_
            clear hK K hV
            generalize V.heap.size = x at *
            (try simp only [Act.put, List.getElem_toArray, List.getElem_cons_zero, List.getElem_cons_succ, List.setIfInBounds_toArray, List.set_cons_zero, List.set_cons_succ])
            refine wpDet_ready (rs := [1]) (by kernel_rfl) (by simp) (AllDet.cons rfl (fun V hV K hK => ?_) AllDet.nil)
            rw [if_pos (by rfl)]
            refine wp_enterE 24 #[.pointer (some ⟨g, 0, none⟩)] (by first | (go_simp; done) | (go_simp; rfl)) _ (cCh V (Bl.out0 hV.1)) ?_
            rintro v7 V7 ⟨q, d, rfl, hR1, hb7⟩
            refine hK.out (AwC w0 (MsC q sn d sm) (CbC x)) _ _ (AwC.stays (MsC.stays q sn d sm) (CbC.stays x)) (fun _ _ h => hCd _ h.1) ⟨Bl.stays w0 V _ hV.1 hb7, hR1, (CbC.stays x) _ _ hV.2.2 hb7⟩ ?_
            clear hK K hV hb7 hR1
            (try simp only [Act.put, List.getElem_toArray, List.getElem_cons_zero, List.getElem_cons_succ, List.setIfInBounds_toArray, List.set_cons_zero, List.set_cons_succ])
            refine wpDet_ready (rs := [5]) (by kernel_rfl) (by simp) (AllDet.cons rfl (fun V hV K hK => ?_) AllDet.nil)
            rw [if_pos (by rfl)]
            refine wp_enterE 14 #[.agg #[.int .i64 se, .slice q sn d], .int .u64 (al : Int), .agg #[.int .i64 h0, .int .i64 h1, .int .i64 h2, .int .i64 h3, .int .i64 h4, .int .i64 h5], .agg #[.int .i64 v0, .int .i64 v1, .int .i64 v2]] (by first | (go_simp; done) | (go_simp; rfl)) (fun v W => v = .tuple #[.agg #[.int .i64 k0, .int .i64 k1, .int .i64 k2, .int .i64 k3], .bool ok, .int .i64 er] ∧ Below V.heap.size V W) ((cNx V q d hV.2.1 (Bl.out0 hV.1)).mono fun e' w' hh => ⟨_, hh.1, rfl, hh.2⟩) ?_
            rintro v7 V7 ⟨rfl, hb7⟩
            refine hK.out (AwC w0 NoC (CbC x)) _ _ (AwC.stays NoC.stays (CbC.stays x)) (fun _ _ h => hCd _ h.1) ⟨Bl.stays w0 V _ hV.1 hb7, trivial, (CbC.stays x) _ _ hV.2.2 hb7⟩ ?_
            clear hK K hV hb7
            (try simp only [Act.put, List.getElem_toArray, List.getElem_cons_zero, List.getElem_cons_succ, List.setIfInBounds_toArray, List.set_cons_zero, List.set_cons_succ])
            refine wpDet_take ?vZ17 (AwC.stays NoC.stays (CbC.stays x)) (fun _ h => hCd _ h.1) (i := 6) rfl (by kernel_rfl) (by kernel_rfl) (by kernel_rfl) (by kernel_rfl) (fun _ _ _ h => h) (Gives.value (by rfl) ?yZ17) ?rZ17
            case yZ17 => (intro w' hSw; go_simp; try with_reducible rfl)
            (try simp only [Act.put, List.getElem_toArray, List.getElem_cons_zero, List.getElem_cons_succ, List.setIfInBounds_toArray, List.set_cons_zero, List.set_cons_succ])
            refine wpDet_take ?vZ18 (AwC.stays NoC.stays (CbC.stays x)) (fun _ h => hCd _ h.1) (i := 7) rfl (by kernel_rfl) (by kernel_rfl) (by kernel_rfl) (by kernel_rfl) (fun _ _ _ h => h) (Gives.value (by rfl) ?yZ18) ?rZ18
            case yZ18 => (intro w' hSw; go_simp; try with_reducible rfl)
            (try simp only [Act.put, List.getElem_toArray, List.getElem_cons_zero, List.getElem_cons_succ, List.setIfInBounds_toArray, List.set_cons_zero, List.set_cons_succ])
            refine wpDet_take ?vZ19 (AwC.stays NoC.stays (CbC.stays x)) (fun _ h => hCd _ h.1) (i := 8) rfl (by kernel_rfl) (by kernel_rfl) (by kernel_rfl) (by kernel_rfl) (fun _ _ _ h => h) (Gives.value (by rfl) ?yZ19) ?rZ19
            case yZ19 => (intro w' hSw; go_simp; try with_reducible rfl)
            (try simp only [Act.put, List.getElem_toArray, List.getElem_cons_zero, List.getElem_cons_succ, List.setIfInBounds_toArray, List.set_cons_zero, List.set_cons_succ])
            refine wpDet_take ?vZ20 (AwC.stays NoC.stays (CbC.stays x)) (fun _ h => hCd _ h.1) (i := 9) rfl (by kernel_rfl) (by kernel_rfl) (by kernel_rfl) (by kernel_rfl) (fun _ _ _ h => h) (Gives.value (by rfl) ?yZ20) ?rZ20
            case yZ20 => (intro w' hSw; go_simp; try with_reducible rfl)
            (try simp only [Act.put, List.getElem_toArray, List.getElem_cons_zero, List.getElem_cons_succ, List.setIfInBounds_toArray, List.set_cons_zero, List.set_cons_succ])
            refine wpDet_ready (rs := [11]) (by kernel_rfl) (by simp) (AllDet.cons rfl (fun V hV K hK => ?_) AllDet.nil)
            rw [if_pos (by rfl)]
            have hAt : At 37 V x #[.int .i64 0, .int .i64 0, .int .i64 0, .int .i64 0] := hV.2.2
            refine wp_store_mid 37 _ _ rfl x 0 #[.int .i64 k0, .int .i64 k1, .int .i64 k2, .int .i64 k3] rfl rfl (there4 hAt) sizeCm (one4 _ _ _ _) ?_
            refine hK.out (AwC w0 NoC (fun W => At 37 W x #[.int .i64 k0, .int .i64 k1, .int .i64 k2, .int .i64 k3])) _ _ (AwC.stays NoC.stays (fun _ _ h hb => h.below hb)) (fun _ _ h => hCd _ h.1) ⟨Below.put4 (Bl.out0 hV.1) hxl _ _ _ _, trivial, hAt.put4 _ _ _ _⟩ ?_
            clear hK K hV hAt
            (try simp only [Act.put, List.getElem_toArray, List.getElem_cons_zero, List.getElem_cons_succ, List.setIfInBounds_toArray, List.set_cons_zero, List.set_cons_succ])
            refine wpDet_take ?vZ21 (AwC.stays NoC.stays (fun _ _ h hb => h.below hb)) (fun _ h => hCd _ h.1) (i := 12) rfl (by kernel_rfl) (by kernel_rfl) (by kernel_rfl) (by kernel_rfl) (fun _ _ _ h => h) (Gives.value (by rfl) ?yZ21) ?rZ21
            case yZ21 => (intro w' hSw; go_simp; try with_reducible rfl)
            (try simp only [Act.put, List.getElem_toArray, List.getElem_cons_zero, List.getElem_cons_succ, List.setIfInBounds_toArray, List.set_cons_zero, List.set_cons_succ])
            refine wpDet_take ?vZ22 (AwC.stays NoC.stays (fun _ _ h hb => h.below hb)) (fun _ h => hCd _ h.1) (i := 13) rfl (by kernel_rfl) (by kernel_rfl) (by kernel_rfl) (by kernel_rfl) (fun _ _ _ h => h) (Gives.value (by rfl) ?yZ22) ?rZ22
            case yZ22 => (intro w' hSw; go_simp; try with_reducible rfl)
            (try simp only [Act.put, List.getElem_toArray, List.getElem_cons_zero, List.getElem_cons_succ, List.setIfInBounds_toArray, List.set_cons_zero, List.set_cons_succ])
            exact wpDet_done (by kernel_rfl) (fun W3 hW3 => ⟨x, q, d, rfl, hxl, Bl.out0 hW3.1, hW3.2.2⟩) _

        intro x q7 d7 w3 hR3
        obtain ⟨hxl, hb3, hC3⟩ := hR3
        have hB3 := hb.trans (hb3.mono hb.size)
        have hL3 := hL.below hb3
        have hH3 := hH.below hB3
        have hV3 := hV.below hB3
        have ht3 := ht0.below hB3
        clear cCh cNx hCd hL hb hb3
        rcases Hcase.out with ⟨hpc, rfl⟩ | ⟨hpc, rfl, rfl, hno⟩ | ⟨hpc, rfl, rfl, e', ms', hso⟩
        · have cCk := pCheck_any h0 h1 h2 h3 h4 h5 v0 v1 v2 w3
          rw [hpc] at cCk
          unfold planV at cCk
          simp only [Bool.false_eq_true, if_false] at cCk
          obtain ⟨m0, m1, m2, m3, m4, m5⟩ := hH3.six
          obtain ⟨n0, n1, n2⟩ := hV3.three
          have hB4 := hb0.trans (hB3.mono (by have := HsB.out; omega))
          clear hH3 hV3 hC3 hL3 hpc Hcase hB3
          go_wp2_with fail
          refine cCk.mono ?_
          rintro o w4 ⟨rfl, hb4⟩
          have ht4 := ht3.below hb4
          have hB5 := hB4.trans (hb4.mono (by have := hB4.size; have := Hhw.out; omega))
          clear cCk hb4 hB4 ht3
          go_wp2_with fail
          refine (hA _ ht4).mono ?_
          rintro r9 w9 ⟨rfl, hb9⟩
          go_wp2_with fail
          go_ret
          exact ⟨rfl, hB5.trans (hb9.mono (by have := hB5.size; have := Hhw.out; omega))⟩
        · have hend : e2 = s.e ∧ ms2 = s.ms := by
            have hq1 := HSt.out
            have hno2 : nextR al [h0, h1, h2, h3, h4, h5] [v0, v1, v2] e0 (readyA al e0 m0) = none := by rw [Hrd.out, ← He.out]; exact hno
            clear hno
            cases l with
            | nil =>
              have ⟨_, a, b⟩ := Steps.out0 hq1
              exact ⟨by rw [a, He.out], by rw [b, Hrd.out]⟩
            | cons y l' =>
              have ⟨a1, a2, h2, h3⟩ := Steps.out1 hq1
              rw [hno2] at h2
              cases h2
          have hms2 : ms2 = sm := by rw [hend.2, Hsm.out]
          have cMe : ∀ V, Below w3.heap.size w3 V → Calls Tryd.prog 29 #[.slice p n c] V fun o w' => ∃ v, o = .returned v ∧ ∃ q d, v = .slice q M.length d ∧ RdM w' q M.length d M ∧ Below V.heap.size V w' := fun V hV => Members_any p n c ms M V ((hr0.below hB3).below hV) HFi.out
          have hMn : M.length ≤ 5864062014805 := by have := (chk_parts Hk.out).2.2.2; omega
          have cAl : ∀ V q d, RdM V q M.length d M → Below w3.heap.size w3 V → Calls Tryd.prog 17 #[.agg #[.int .i64 1, .slice q M.length d], .int .u64 (al : Int), .agg #[.int .i64 h0, .int .i64 h1, .int .i64 h2, .int .i64 h3, .int .i64 h4, .int .i64 h5], .agg #[.int .i64 v0, .int .i64 v1, .int .i64 v2]] V fun o w' => ∃ v, o = .returned v ∧ ∃ q1 c1 q2 c2, v = .tuple #[.slice q1 l0.length c1, .agg #[.int .i64 e2, .slice q2 ms2.length c2], .int .i64 0] ∧ RdM w' q2 ms2.length c2 ms2 ∧ (∀ a, q2 = some a → 0 < ms2.length → V.heap.size ≤ a.block) ∧ Below V.heap.size V w' := fun V q d hx1 hx2 => (All_ok 1 q M.length d M al h0 h1 h2 h3 h4 h5 v0 v1 v2 hv V hal hx1 hMn (ht3.below hx2) Hk.out hpc).mono (by
            rintro o w' ⟨L, e5, ms5, q1, c1, q2, c2, rfl, hst, _, _, _, hR5, ⟨_, hq5⟩, hb5⟩
            have ⟨a1, a2, a3⟩ := hst.det Hst.out
            clear hst
            subst a1 a2 a3
            exact ⟨_, rfl, q1, c1, q2, c2, rfl, hR5, hq5, hb5⟩)
          have hCd : ∀ W, Bl w3 W → (fun W : World => At 23 W b #[.int .i64 h0, .int .i64 h1, .int .i64 h2, .int .i64 h3, .int .i64 h4, .int .i64 h5] ∧ At 25 W (b + 1) #[.int .i64 v0, .int .i64 v1, .int .i64 v2]) W := fun W h => ⟨hH3.below (Bl.out0 h), hV3.below (Bl.out0 h)⟩
          have Hno : Hid (ms2 = sm) := hms2
          have cNo : ∀ q n c W, RdM W q n c ms2 → n ≤ 5864062014805 → ∀ e, Calls Tryd.prog 31 #[.agg #[.int .i64 e, .slice q n c]] W fun r w' => r = .returned (.int .u64 ((thN (fun _ => true) 0 ms2 : Nat) : Int)) ∧ Below W.heap.size W w' := fun q n c W h1 h2 e => Nodes_any e q n c ms2 W h1 h2
          have hXlt : thN (fun _ => true) 0 ms2 < 18446744073709551616 := thN_lt _ _ _ (by decide)
          have cAll := fun W => all_any (thN (fun _ => true) 0 ms2) W hXlt
          have hpl := pop_le (thN (fun _ => true) 0 ms2)
          obtain ⟨X, HX⟩ : ∃ z, Hid (thN (fun _ => true) 0 ms2 = z) := ⟨_, rfl⟩
          rw [HX.out] at cNo cAll hXlt hpl
          have cCh : ∀ V, Below w3.heap.size w3 V → Calls Tryd.prog 24 #[.pointer (some ⟨g, 0, none⟩)] V fun o w' => ∃ v, o = .returned v ∧ ∃ q7 d7, v = .agg #[.int .i64 se, .slice q7 sn d7] ∧ RdM w' q7 sn d7 ms2 ∧ Below V.heap.size V w' := fun V hV => (Chain_any g r s V (hL3.below hV) (chk_parts Hok.out.chk).2.2.2).mono (by
            rintro o w' ⟨v, h1, q7, d7, h2, h3, _, h5⟩
            rw [Hse.out, Hsm.out, Hsn.out] at h2
            rw [Hsm.out, Hsn.out] at h3
            rw [Hno.out]
            exact ⟨v, h1, q7, d7, h2, h3, h5⟩)
          have hsn : sn ≤ 6 := by have := (chk_parts Hok.out.chk).2.2.2; rw [Hsm.out, Hsn.out] at this; exact this
          have hm2 : ms2.length ≤ 6 := by rw [hms2, Hsn.out]; exact hsn
          obtain ⟨m2, Hm2⟩ : ∃ z, Hid (ms2.length = z) := ⟨_, rfl⟩
          obtain ⟨mm, Hmm⟩ : ∃ z, Hid (M.length = z) := ⟨_, rfl⟩
          obtain ⟨ln, Hln⟩ : ∃ z, Hid (l0.length = z) := ⟨_, rfl⟩
          rw [Hmm.out] at cMe cAl
          rw [Hm2.out, Hln.out] at cAl
          rw [Hm2.out] at hm2
          have hB4 := hb0.trans (hB3.mono (by have := HsB.out; omega))
          clear hend hms2 hno hMn hpc hH3 hV3 hC3 hL3 hB3 Hcase HSt
          obtain ⟨u0, Hu0⟩ : ∃ z, Hid (w3 = z) := ⟨_, rfl⟩
          rw [Hu0.out] at cMe cAl hCd cCh ht3 hB4 ⊢
          clear Hu0
          go_wp2_with fail
          apply wp_meet7 (R := fun x _ _ _ _ q2 c2 W => u0.heap.size ≤ x ∧ Below u0.heap.size u0 W ∧ At 28 W x #[.int .i64 e2, .slice q2 m2 c2] ∧ RdM W q2 m2 c2 ms2)
          · refine wp_region_det [0, 2, 3, 4, 5, 7, 8, 9, 10, 12, 14] (fun W => At 23 W b #[.int .i64 h0, .int .i64 h1, .int .i64 h2, .int .i64 h3, .int .i64 h4, .int .i64 h5] ∧ At 25 W (b + 1) #[.int .i64 v0, .int .i64 v1, .int .i64 v2]) (AwC u0 NoC NoC) (by kernel_rfl) ⟨(Below.refl _ _).drew, trivial, trivial⟩ ?_
            refine wpDet_take ?vZ23 (AwC.stays NoC.stays NoC.stays) (fun _ h => hCd _ h.1) (i := 0) rfl (by kernel_rfl) (by kernel_rfl) (by kernel_rfl) (by kernel_rfl) (fun _ _ _ h => h) (Gives.value (by rfl) ?yZ23) ?rZ23
            case yZ23 => (intro w' hSw; go_simp; try with_reducible rfl)
            (try simp only [Act.put, List.getElem_toArray, List.getElem_cons_zero, List.getElem_cons_succ, List.setIfInBounds_toArray, List.set_cons_zero, List.set_cons_succ])
            refine wpDet_take ?vZ24 (AwC.stays NoC.stays NoC.stays) (fun _ h => hCd _ h.1) (i := 3) rfl (by kernel_rfl) (by kernel_rfl) (by kernel_rfl) (by kernel_rfl) (fun _ _ _ h => h) (Gives.value (by rfl) ?yZ24) ?rZ24
            case yZ24 => (intro w' hSw; go_simp; try with_reducible rfl)
            (try simp only [Act.put, List.getElem_toArray, List.getElem_cons_zero, List.getElem_cons_succ, List.setIfInBounds_toArray, List.set_cons_zero, List.set_cons_succ])
            refine wpDet_take ?vZ25 (AwC.stays NoC.stays NoC.stays) (fun _ h => hCd _ h.1) (i := 4) rfl (by kernel_rfl) (by kernel_rfl) (by kernel_rfl) (by kernel_rfl) (fun _ _ _ h => h) (Gives.value (by rfl) ?yZ25) ?rZ25
            case yZ25 => (intro w' hSw; obtain ⟨⟨m0, m1, m2, m3, m4, m5⟩, n0, n1, n2⟩ := (⟨At.six hSw.1, At.three hSw.2⟩ : _ ∧ _); clear hSw; go_simp; try with_reducible rfl)
            (try simp only [Act.put, List.getElem_toArray, List.getElem_cons_zero, List.getElem_cons_succ, List.setIfInBounds_toArray, List.set_cons_zero, List.set_cons_succ])
            refine wpDet_take ?vZ26 (AwC.stays NoC.stays NoC.stays) (fun _ h => hCd _ h.1) (i := 5) rfl (by kernel_rfl) (by kernel_rfl) (by kernel_rfl) (by kernel_rfl) (fun _ _ _ h => h) (Gives.value (by rfl) ?yZ26) ?rZ26
            case yZ26 => (intro w' hSw; obtain ⟨⟨m0, m1, m2, m3, m4, m5⟩, n0, n1, n2⟩ := (⟨At.six hSw.1, At.three hSw.2⟩ : _ ∧ _); clear hSw; go_simp; try with_reducible rfl)
            (try simp only [Act.put, List.getElem_toArray, List.getElem_cons_zero, List.getElem_cons_succ, List.setIfInBounds_toArray, List.set_cons_zero, List.set_cons_succ])
            refine wpDet_ready (rs := [1, 11]) (by kernel_rfl) (by simp) (AllDet.cons rfl (fun V hV K hK => ?_) (AllDet.cons rfl (fun V hV K hK => ?_) AllDet.nil))
            · rw [if_pos (by rfl)]
              refine wp_enterE 29 #[.slice p n c] (by first | (go_simp; done) | (go_simp; rfl)) _ (cMe V (Bl.out0 hV.1)) ?_
              rintro v7 V7 ⟨q, d, rfl, hR1, hb7⟩
              refine hK.out (AwC u0 (MsC q mm d M) NoC) _ _ (AwC.stays (MsC.stays q mm d M) NoC.stays) (fun _ _ h => hCd _ h.1) ⟨Bl.stays u0 V _ hV.1 hb7, hR1, NoC.stays _ _ hV.2.2 hb7⟩ ?_
              clear hK K hV hb7 hR1
              (try simp only [Act.put, List.getElem_toArray, List.getElem_cons_zero, List.getElem_cons_succ, List.setIfInBounds_toArray, List.set_cons_zero, List.set_cons_succ])
              refine wpDet_take ?vZ27 (AwC.stays (MsC.stays q mm d M) NoC.stays) (fun _ h => hCd _ h.1) (i := 2) rfl (by kernel_rfl) (by kernel_rfl) (by kernel_rfl) (by kernel_rfl) (fun _ _ _ h => h) (Gives.value (by rfl) ?yZ27) ?rZ27
              case yZ27 => (intro w' hSw; go_simp; try with_reducible rfl)
              (try simp only [Act.put, List.getElem_toArray, List.getElem_cons_zero, List.getElem_cons_succ, List.setIfInBounds_toArray, List.set_cons_zero, List.set_cons_succ])
              refine wpDet_ready (rs := [6, 11]) (by kernel_rfl) (by simp) (AllDet.cons rfl (fun V hV K hK => ?_) (AllDet.cons rfl (fun V hV K hK => ?_) AllDet.nil))
              · rw [if_pos (by rfl)]
                refine wp_enterE 17 #[.agg #[.int .i64 1, .slice q mm d], .int .u64 (al : Int), .agg #[.int .i64 h0, .int .i64 h1, .int .i64 h2, .int .i64 h3, .int .i64 h4, .int .i64 h5], .agg #[.int .i64 v0, .int .i64 v1, .int .i64 v2]] (by first | (go_simp; done) | (go_simp; rfl)) _ (cAl V q d hV.2.1 (Bl.out0 hV.1)) ?_
                rintro v7 V7 ⟨q1, c1, q2, c2, rfl, hR2, hq2, hb7⟩
                refine hK.out (AwC u0 (MsC q2 m2 c2 ms2) NoC) _ _ (AwC.stays (MsC.stays q2 m2 c2 ms2) NoC.stays) (fun _ _ h => hCd _ h.1) ⟨Bl.stays u0 V _ hV.1 hb7, hR2, NoC.stays _ _ hV.2.2 hb7⟩ ?_
                clear hK K hV hb7 hR2 hq2
                (try simp only [Act.put, List.getElem_toArray, List.getElem_cons_zero, List.getElem_cons_succ, List.setIfInBounds_toArray, List.set_cons_zero, List.set_cons_succ])
                refine wpDet_take ?vZ28 (AwC.stays (MsC.stays q2 m2 c2 ms2) NoC.stays) (fun _ h => hCd _ h.1) (i := 7) rfl (by kernel_rfl) (by kernel_rfl) (by kernel_rfl) (by kernel_rfl) (fun _ _ _ h => h) (Gives.value (by rfl) ?yZ28) ?rZ28
                case yZ28 => (intro w' hSw; go_simp; try with_reducible rfl)
                (try simp only [Act.put, List.getElem_toArray, List.getElem_cons_zero, List.getElem_cons_succ, List.setIfInBounds_toArray, List.set_cons_zero, List.set_cons_succ])
                refine wpDet_take ?vZ29 (AwC.stays (MsC.stays q2 m2 c2 ms2) NoC.stays) (fun _ h => hCd _ h.1) (i := 8) rfl (by kernel_rfl) (by kernel_rfl) (by kernel_rfl) (by kernel_rfl) (fun _ _ _ h => h) (Gives.value (by rfl) ?yZ29) ?rZ29
                case yZ29 => (intro w' hSw; go_simp; try with_reducible rfl)
                (try simp only [Act.put, List.getElem_toArray, List.getElem_cons_zero, List.getElem_cons_succ, List.setIfInBounds_toArray, List.set_cons_zero, List.set_cons_succ])
                refine wpDet_take ?vZ30 (AwC.stays (MsC.stays q2 m2 c2 ms2) NoC.stays) (fun _ h => hCd _ h.1) (i := 9) rfl (by kernel_rfl) (by kernel_rfl) (by kernel_rfl) (by kernel_rfl) (fun _ _ _ h => h) (Gives.value (by rfl) ?yZ30) ?rZ30
                case yZ30 => (intro w' hSw; go_simp; try with_reducible rfl)
                (try simp only [Act.put, List.getElem_toArray, List.getElem_cons_zero, List.getElem_cons_succ, List.setIfInBounds_toArray, List.set_cons_zero, List.set_cons_succ])
                refine wpDet_take ?vZ31 (AwC.stays (MsC.stays q2 m2 c2 ms2) NoC.stays) (fun _ h => hCd _ h.1) (i := 10) rfl (by kernel_rfl) (by kernel_rfl) (by kernel_rfl) (by kernel_rfl) (fun _ _ _ h => h) (Gives.value (by rfl) ?yZ31) ?rZ31
                case yZ31 => (intro w' hSw; go_simp; try with_reducible rfl)
                (try simp only [Act.put, List.getElem_toArray, List.getElem_cons_zero, List.getElem_cons_succ, List.setIfInBounds_toArray, List.set_cons_zero, List.set_cons_succ])
                refine wpDet_ready (rs := [11]) (by kernel_rfl) (by simp) (AllDet.cons rfl (fun V hV K hK => ?_) AllDet.nil)
                rw [if_pos (by rfl)]
                refine wp_value (.pointer (some ⟨V.heap.size, 0, none⟩)) (V.alloc (.cells #[.int .i64 0, .slice none 0 0] 28)) (by first | (go_simp; done) | (go_simp; rfl)) ?_
                have hq2x : ∀ a, q2 = some a → 0 < m2 → a.block ≠ V.heap.size := fun a ha h0 => Nat.ne_of_lt (rd_lt hV.2.1 ha h0)
                have hxl : u0.heap.size ≤ V.heap.size := (Bl.out0 hV.1).size
                refine hK.out (AwC u0 (MsC q2 m2 c2 ms2) (BxC V.heap.size)) _ _ (AwC.stays (MsC.stays q2 m2 c2 ms2) (BxC.stays _)) (fun _ _ h => hCd _ h.1) ⟨Bl.stays u0 V _ hV.1 (below_alloc _ _), (MsC.stays q2 m2 c2 ms2) _ _ hV.2.1 (below_alloc _ _), At.new _ _ _⟩ ?_
                clear hK K hV
                generalize V.heap.size = x at *
                (try simp only [Act.put, List.getElem_toArray, List.getElem_cons_zero, List.getElem_cons_succ, List.setIfInBounds_toArray, List.set_cons_zero, List.set_cons_succ])
                refine wpDet_take ?vZ32 (AwC.stays (MsC.stays q2 m2 c2 ms2) (BxC.stays x)) (fun _ h => hCd _ h.1) (i := 12) rfl (by kernel_rfl) (by kernel_rfl) (by kernel_rfl) (by kernel_rfl) (fun _ _ _ h => h) (Gives.value (by rfl) ?yZ32) ?rZ32
                case yZ32 => (intro w' hSw; go_simp; try with_reducible rfl)
                (try simp only [Act.put, List.getElem_toArray, List.getElem_cons_zero, List.getElem_cons_succ, List.setIfInBounds_toArray, List.set_cons_zero, List.set_cons_succ])
                refine wpDet_ready (rs := [13]) (by kernel_rfl) (by simp) (AllDet.cons rfl (fun V hV K hK => ?_) AllDet.nil)
                rw [if_pos (by rfl)]
                have hAt : At 28 V x #[.int .i64 0, .slice none 0 0] := hV.2.2
                have hth : V.there x 0 2 := there2 hAt
                refine wp_store_mid 28 _ _ rfl x 0 #[.int .i64 e2, .slice q2 m2 c2] rfl rfl hth sizeC (one2 _ _ _ _) ?_
                refine hK.out (AwC u0 (MsC q2 m2 c2 ms2) (fun W => At 28 W x #[.int .i64 e2, .slice q2 m2 c2])) _ _ (AwC.stays (MsC.stays q2 m2 c2 ms2) (fun _ _ h hb => h.below hb)) (fun _ _ h => hCd _ h.1) ⟨Gr.putB (Bl.out0 hV.1) hxl _ _, RdM.put hV.2.1 _ _ (fun a ha h0 => hq2x a ha h0), hAt.put2 _ _⟩ ?_
                clear hK K hV hth hAt
                (try simp only [Act.put, List.getElem_toArray, List.getElem_cons_zero, List.getElem_cons_succ, List.setIfInBounds_toArray, List.set_cons_zero, List.set_cons_succ])
                refine wpDet_take ?vZ33 (AwC.stays (MsC.stays q2 m2 c2 ms2) (fun _ _ h hb => h.below hb)) (fun _ h => hCd _ h.1) (i := 14) rfl (by kernel_rfl) (by kernel_rfl) (by kernel_rfl) (by kernel_rfl) (fun _ _ _ h => h) (Gives.value (by rfl) ?yZ33) ?rZ33
                case yZ33 => (intro w' hSw; go_simp; try with_reducible rfl)
                (try simp only [Act.put, List.getElem_toArray, List.getElem_cons_zero, List.getElem_cons_succ, List.setIfInBounds_toArray, List.set_cons_zero, List.set_cons_succ])
                exact wpDet_done (by kernel_rfl) (fun W3 hW3 => ⟨x, q, d, q1, c1, q2, c2, rfl, hxl, Bl.out0 hW3.1, hW3.2.2, hW3.2.1⟩) _
              · rw [if_pos (by rfl)]
                refine wp_value (.pointer (some ⟨V.heap.size, 0, none⟩)) (V.alloc (.cells #[.int .i64 0, .slice none 0 0] 28)) (by first | (go_simp; done) | (go_simp; rfl)) ?_
                have hxl : u0.heap.size ≤ V.heap.size := (Bl.out0 hV.1).size
                refine hK.out (AwC u0 (MsC q mm d M) (BxC V.heap.size)) _ _ (AwC.stays (MsC.stays q mm d M) (BxC.stays _)) (fun _ _ h => hCd _ h.1) ⟨Bl.stays u0 V _ hV.1 (below_alloc _ _), (MsC.stays q mm d M) _ _ hV.2.1 (below_alloc _ _), At.new _ _ _⟩ ?_
                clear hK K hV
                generalize V.heap.size = x at *
                (try simp only [Act.put, List.getElem_toArray, List.getElem_cons_zero, List.getElem_cons_succ, List.setIfInBounds_toArray, List.set_cons_zero, List.set_cons_succ])
                refine wpDet_ready (rs := [6]) (by kernel_rfl) (by simp) (AllDet.cons rfl (fun V hV K hK => ?_) AllDet.nil)
                rw [if_pos (by rfl)]
                refine wp_enterE 17 #[.agg #[.int .i64 1, .slice q mm d], .int .u64 (al : Int), .agg #[.int .i64 h0, .int .i64 h1, .int .i64 h2, .int .i64 h3, .int .i64 h4, .int .i64 h5], .agg #[.int .i64 v0, .int .i64 v1, .int .i64 v2]] (by first | (go_simp; done) | (go_simp; rfl)) _ (cAl V q d hV.2.1 (Bl.out0 hV.1)) ?_
                rintro v7 V7 ⟨q1, c1, q2, c2, rfl, hR2, hq2, hb7⟩
                have hq2x : ∀ a, q2 = some a → 0 < m2 → a.block ≠ x := fun a ha h0 => by have := hq2 a ha h0; have := (show At 28 V x _ from hV.2.2).lt; omega
                refine hK.out (AwC u0 (MsC q2 m2 c2 ms2) (BxC x)) _ _ (AwC.stays (MsC.stays q2 m2 c2 ms2) (BxC.stays x)) (fun _ _ h => hCd _ h.1) ⟨Bl.stays u0 V _ hV.1 hb7, hR2, (BxC.stays x) _ _ hV.2.2 hb7⟩ ?_
                clear hK K hV hb7 hR2 hq2
                (try simp only [Act.put, List.getElem_toArray, List.getElem_cons_zero, List.getElem_cons_succ, List.setIfInBounds_toArray, List.set_cons_zero, List.set_cons_succ])
                refine wpDet_take ?vZ34 (AwC.stays (MsC.stays q2 m2 c2 ms2) (BxC.stays x)) (fun _ h => hCd _ h.1) (i := 7) rfl (by kernel_rfl) (by kernel_rfl) (by kernel_rfl) (by kernel_rfl) (fun _ _ _ h => h) (Gives.value (by rfl) ?yZ34) ?rZ34
                case yZ34 => (intro w' hSw; go_simp; try with_reducible rfl)
                (try simp only [Act.put, List.getElem_toArray, List.getElem_cons_zero, List.getElem_cons_succ, List.setIfInBounds_toArray, List.set_cons_zero, List.set_cons_succ])
                refine wpDet_take ?vZ35 (AwC.stays (MsC.stays q2 m2 c2 ms2) (BxC.stays x)) (fun _ h => hCd _ h.1) (i := 8) rfl (by kernel_rfl) (by kernel_rfl) (by kernel_rfl) (by kernel_rfl) (fun _ _ _ h => h) (Gives.value (by rfl) ?yZ35) ?rZ35
                case yZ35 => (intro w' hSw; go_simp; try with_reducible rfl)
                (try simp only [Act.put, List.getElem_toArray, List.getElem_cons_zero, List.getElem_cons_succ, List.setIfInBounds_toArray, List.set_cons_zero, List.set_cons_succ])
                refine wpDet_take ?vZ36 (AwC.stays (MsC.stays q2 m2 c2 ms2) (BxC.stays x)) (fun _ h => hCd _ h.1) (i := 9) rfl (by kernel_rfl) (by kernel_rfl) (by kernel_rfl) (by kernel_rfl) (fun _ _ _ h => h) (Gives.value (by rfl) ?yZ36) ?rZ36
                case yZ36 => (intro w' hSw; go_simp; try with_reducible rfl)
                (try simp only [Act.put, List.getElem_toArray, List.getElem_cons_zero, List.getElem_cons_succ, List.setIfInBounds_toArray, List.set_cons_zero, List.set_cons_succ])
                refine wpDet_take ?vZ37 (AwC.stays (MsC.stays q2 m2 c2 ms2) (BxC.stays x)) (fun _ h => hCd _ h.1) (i := 10) rfl (by kernel_rfl) (by kernel_rfl) (by kernel_rfl) (by kernel_rfl) (fun _ _ _ h => h) (Gives.value (by rfl) ?yZ37) ?rZ37
                case yZ37 => (intro w' hSw; go_simp; try with_reducible rfl)
                (try simp only [Act.put, List.getElem_toArray, List.getElem_cons_zero, List.getElem_cons_succ, List.setIfInBounds_toArray, List.set_cons_zero, List.set_cons_succ])
                refine wpDet_take ?vZ38 (AwC.stays (MsC.stays q2 m2 c2 ms2) (BxC.stays x)) (fun _ h => hCd _ h.1) (i := 12) rfl (by kernel_rfl) (by kernel_rfl) (by kernel_rfl) (by kernel_rfl) (fun _ _ _ h => h) (Gives.value (by rfl) ?yZ38) ?rZ38
                case yZ38 => (intro w' hSw; go_simp; try with_reducible rfl)
                (try simp only [Act.put, List.getElem_toArray, List.getElem_cons_zero, List.getElem_cons_succ, List.setIfInBounds_toArray, List.set_cons_zero, List.set_cons_succ])
                refine wpDet_ready (rs := [13]) (by kernel_rfl) (by simp) (AllDet.cons rfl (fun V hV K hK => ?_) AllDet.nil)
                rw [if_pos (by rfl)]
                have hAt : At 28 V x #[.int .i64 0, .slice none 0 0] := hV.2.2
                have hth : V.there x 0 2 := there2 hAt
                refine wp_store_mid 28 _ _ rfl x 0 #[.int .i64 e2, .slice q2 m2 c2] rfl rfl hth sizeC (one2 _ _ _ _) ?_
                refine hK.out (AwC u0 (MsC q2 m2 c2 ms2) (fun W => At 28 W x #[.int .i64 e2, .slice q2 m2 c2])) _ _ (AwC.stays (MsC.stays q2 m2 c2 ms2) (fun _ _ h hb => h.below hb)) (fun _ _ h => hCd _ h.1) ⟨Gr.putB (Bl.out0 hV.1) hxl _ _, RdM.put hV.2.1 _ _ (fun a ha h0 => hq2x a ha h0), hAt.put2 _ _⟩ ?_
                clear hK K hV hth hAt
                (try simp only [Act.put, List.getElem_toArray, List.getElem_cons_zero, List.getElem_cons_succ, List.setIfInBounds_toArray, List.set_cons_zero, List.set_cons_succ])
                refine wpDet_take ?vZ39 (AwC.stays (MsC.stays q2 m2 c2 ms2) (fun _ _ h hb => h.below hb)) (fun _ h => hCd _ h.1) (i := 14) rfl (by kernel_rfl) (by kernel_rfl) (by kernel_rfl) (by kernel_rfl) (fun _ _ _ h => h) (Gives.value (by rfl) ?yZ39) ?rZ39
                case yZ39 => (intro w' hSw; go_simp; try with_reducible rfl)
                (try simp only [Act.put, List.getElem_toArray, List.getElem_cons_zero, List.getElem_cons_succ, List.setIfInBounds_toArray, List.set_cons_zero, List.set_cons_succ])
                exact wpDet_done (by kernel_rfl) (fun W3 hW3 => ⟨x, q, d, q1, c1, q2, c2, rfl, hxl, Bl.out0 hW3.1, hW3.2.2, hW3.2.1⟩) _
            · rw [if_pos (by rfl)]
              refine wp_value (.pointer (some ⟨V.heap.size, 0, none⟩)) (V.alloc (.cells #[.int .i64 0, .slice none 0 0] 28)) (by first | (go_simp; done) | (go_simp; rfl)) ?_
              have hxl : u0.heap.size ≤ V.heap.size := (Bl.out0 hV.1).size
              refine hK.out (AwC u0 NoC (BxC V.heap.size)) _ _ (AwC.stays NoC.stays (BxC.stays _)) (fun _ _ h => hCd _ h.1) ⟨Bl.stays u0 V _ hV.1 (below_alloc _ _), NoC.stays _ _ hV.2.1 (below_alloc _ _), At.new _ _ _⟩ ?_
              clear hK K hV
              generalize V.heap.size = x at *
              (try simp only [Act.put, List.getElem_toArray, List.getElem_cons_zero, List.getElem_cons_succ, List.setIfInBounds_toArray, List.set_cons_zero, List.set_cons_succ])
              refine wpDet_ready (rs := [1]) (by kernel_rfl) (by simp) (AllDet.cons rfl (fun V hV K hK => ?_) AllDet.nil)
              rw [if_pos (by rfl)]
              refine wp_enterE 29 #[.slice p n c] (by first | (go_simp; done) | (go_simp; rfl)) _ (cMe V (Bl.out0 hV.1)) ?_
              rintro v7 V7 ⟨q, d, rfl, hR1, hb7⟩
              refine hK.out (AwC u0 (MsC q mm d M) (BxC x)) _ _ (AwC.stays (MsC.stays q mm d M) (BxC.stays x)) (fun _ _ h => hCd _ h.1) ⟨Bl.stays u0 V _ hV.1 hb7, hR1, (BxC.stays x) _ _ hV.2.2 hb7⟩ ?_
              clear hK K hV hb7 hR1
              (try simp only [Act.put, List.getElem_toArray, List.getElem_cons_zero, List.getElem_cons_succ, List.setIfInBounds_toArray, List.set_cons_zero, List.set_cons_succ])
              refine wpDet_take ?vZ40 (AwC.stays (MsC.stays q mm d M) (BxC.stays x)) (fun _ h => hCd _ h.1) (i := 2) rfl (by kernel_rfl) (by kernel_rfl) (by kernel_rfl) (by kernel_rfl) (fun _ _ _ h => h) (Gives.value (by rfl) ?yZ40) ?rZ40
              case yZ40 => (intro w' hSw; go_simp; try with_reducible rfl)
              (try simp only [Act.put, List.getElem_toArray, List.getElem_cons_zero, List.getElem_cons_succ, List.setIfInBounds_toArray, List.set_cons_zero, List.set_cons_succ])
              refine wpDet_ready (rs := [6]) (by kernel_rfl) (by simp) (AllDet.cons rfl (fun V hV K hK => ?_) AllDet.nil)
              rw [if_pos (by rfl)]
              refine wp_enterE 17 #[.agg #[.int .i64 1, .slice q mm d], .int .u64 (al : Int), .agg #[.int .i64 h0, .int .i64 h1, .int .i64 h2, .int .i64 h3, .int .i64 h4, .int .i64 h5], .agg #[.int .i64 v0, .int .i64 v1, .int .i64 v2]] (by first | (go_simp; done) | (go_simp; rfl)) _ (cAl V q d hV.2.1 (Bl.out0 hV.1)) ?_
              rintro v7 V7 ⟨q1, c1, q2, c2, rfl, hR2, hq2, hb7⟩
              have hq2x : ∀ a, q2 = some a → 0 < m2 → a.block ≠ x := fun a ha h0 => by have := hq2 a ha h0; have := (show At 28 V x _ from hV.2.2).lt; omega
              refine hK.out (AwC u0 (MsC q2 m2 c2 ms2) (BxC x)) _ _ (AwC.stays (MsC.stays q2 m2 c2 ms2) (BxC.stays x)) (fun _ _ h => hCd _ h.1) ⟨Bl.stays u0 V _ hV.1 hb7, hR2, (BxC.stays x) _ _ hV.2.2 hb7⟩ ?_
              clear hK K hV hb7 hR2 hq2
              (try simp only [Act.put, List.getElem_toArray, List.getElem_cons_zero, List.getElem_cons_succ, List.setIfInBounds_toArray, List.set_cons_zero, List.set_cons_succ])
              refine wpDet_take ?vZ41 (AwC.stays (MsC.stays q2 m2 c2 ms2) (BxC.stays x)) (fun _ h => hCd _ h.1) (i := 7) rfl (by kernel_rfl) (by kernel_rfl) (by kernel_rfl) (by kernel_rfl) (fun _ _ _ h => h) (Gives.value (by rfl) ?yZ41) ?rZ41
              case yZ41 => (intro w' hSw; go_simp; try with_reducible rfl)
              (try simp only [Act.put, List.getElem_toArray, List.getElem_cons_zero, List.getElem_cons_succ, List.setIfInBounds_toArray, List.set_cons_zero, List.set_cons_succ])
              refine wpDet_take ?vZ42 (AwC.stays (MsC.stays q2 m2 c2 ms2) (BxC.stays x)) (fun _ h => hCd _ h.1) (i := 8) rfl (by kernel_rfl) (by kernel_rfl) (by kernel_rfl) (by kernel_rfl) (fun _ _ _ h => h) (Gives.value (by rfl) ?yZ42) ?rZ42
              case yZ42 => (intro w' hSw; go_simp; try with_reducible rfl)
              (try simp only [Act.put, List.getElem_toArray, List.getElem_cons_zero, List.getElem_cons_succ, List.setIfInBounds_toArray, List.set_cons_zero, List.set_cons_succ])
              refine wpDet_take ?vZ43 (AwC.stays (MsC.stays q2 m2 c2 ms2) (BxC.stays x)) (fun _ h => hCd _ h.1) (i := 9) rfl (by kernel_rfl) (by kernel_rfl) (by kernel_rfl) (by kernel_rfl) (fun _ _ _ h => h) (Gives.value (by rfl) ?yZ43) ?rZ43
              case yZ43 => (intro w' hSw; go_simp; try with_reducible rfl)
              (try simp only [Act.put, List.getElem_toArray, List.getElem_cons_zero, List.getElem_cons_succ, List.setIfInBounds_toArray, List.set_cons_zero, List.set_cons_succ])
              refine wpDet_take ?vZ44 (AwC.stays (MsC.stays q2 m2 c2 ms2) (BxC.stays x)) (fun _ h => hCd _ h.1) (i := 10) rfl (by kernel_rfl) (by kernel_rfl) (by kernel_rfl) (by kernel_rfl) (fun _ _ _ h => h) (Gives.value (by rfl) ?yZ44) ?rZ44
              case yZ44 => (intro w' hSw; go_simp; try with_reducible rfl)
              (try simp only [Act.put, List.getElem_toArray, List.getElem_cons_zero, List.getElem_cons_succ, List.setIfInBounds_toArray, List.set_cons_zero, List.set_cons_succ])
              refine wpDet_take ?vZ45 (AwC.stays (MsC.stays q2 m2 c2 ms2) (BxC.stays x)) (fun _ h => hCd _ h.1) (i := 12) rfl (by kernel_rfl) (by kernel_rfl) (by kernel_rfl) (by kernel_rfl) (fun _ _ _ h => h) (Gives.value (by rfl) ?yZ45) ?rZ45
              case yZ45 => (intro w' hSw; go_simp; try with_reducible rfl)
              (try simp only [Act.put, List.getElem_toArray, List.getElem_cons_zero, List.getElem_cons_succ, List.setIfInBounds_toArray, List.set_cons_zero, List.set_cons_succ])
              refine wpDet_ready (rs := [13]) (by kernel_rfl) (by simp) (AllDet.cons rfl (fun V hV K hK => ?_) AllDet.nil)
              rw [if_pos (by rfl)]
              have hAt : At 28 V x #[.int .i64 0, .slice none 0 0] := hV.2.2
              have hth : V.there x 0 2 := there2 hAt
              refine wp_store_mid 28 _ _ rfl x 0 #[.int .i64 e2, .slice q2 m2 c2] rfl rfl hth sizeC (one2 _ _ _ _) ?_
              refine hK.out (AwC u0 (MsC q2 m2 c2 ms2) (fun W => At 28 W x #[.int .i64 e2, .slice q2 m2 c2])) _ _ (AwC.stays (MsC.stays q2 m2 c2 ms2) (fun _ _ h hb => h.below hb)) (fun _ _ h => hCd _ h.1) ⟨Gr.putB (Bl.out0 hV.1) hxl _ _, RdM.put hV.2.1 _ _ (fun a ha h0 => hq2x a ha h0), hAt.put2 _ _⟩ ?_
              clear hK K hV hth hAt
              (try simp only [Act.put, List.getElem_toArray, List.getElem_cons_zero, List.getElem_cons_succ, List.setIfInBounds_toArray, List.set_cons_zero, List.set_cons_succ])
              refine wpDet_take ?vZ46 (AwC.stays (MsC.stays q2 m2 c2 ms2) (fun _ _ h hb => h.below hb)) (fun _ h => hCd _ h.1) (i := 14) rfl (by kernel_rfl) (by kernel_rfl) (by kernel_rfl) (by kernel_rfl) (fun _ _ _ h => h) (Gives.value (by rfl) ?yZ46) ?rZ46
              case yZ46 => (intro w' hSw; go_simp; try with_reducible rfl)
              (try simp only [Act.put, List.getElem_toArray, List.getElem_cons_zero, List.getElem_cons_succ, List.setIfInBounds_toArray, List.set_cons_zero, List.set_cons_succ])
              exact wpDet_done (by kernel_rfl) (fun W3 hW3 => ⟨x, q, d, q1, c1, q2, c2, rfl, hxl, Bl.out0 hW3.1, hW3.2.2, hW3.2.1⟩) _

          intro x5 q5 d5 q6 c6 q8 c8 w5 hR5
          obtain ⟨_, hb5, hC5, hr5⟩ := hR5
          have hB5 := hB4.trans (hb5.mono (by have := hB4.size; have := Hhw.out; omega))
          have ht0b := ht3
          obtain ⟨z0, z1⟩ := hC5.two
          have g5 := cNo q8 m2 c8 w5 hr5 (by omega) e2
          clear cMe cAl hCd hC5 hr5 hB4 ht3
          go_wp2_with fail
          refine g5.mono ?_
          rintro o w6 ⟨rfl, hb6⟩
          have hb56 := hb5.trans (hb6.mono hb5.size)
          have hB6 := hB5.trans (hb6.mono (by have := hB5.size; have := Hhw.out; omega))
          clear g5 z0 z1
          go_wp2_with fail
          refine (cAll w6).mono ?_
          rintro o w7 ⟨p7, c7, rfl, hO7, hb7⟩
          have hb57 := hb56.trans (hb7.mono hb56.size)
          have hB7 := hB6.trans (hb7.mono (by have := hB6.size; have := Hhw.out; omega))
          have hR7 := hO7.rd
          have g7 := cCh w7 hb57
          clear hO7 hb56 hB5 hB6
          go_wp2_with fail
          refine g7.mono ?_
          rintro o w8 ⟨v, rfl, q7, d7, rfl, hr8, hb8⟩
          have hB8 := hB7.trans (hb8.mono (by have := hB7.size; have := Hhw.out; omega))
          have hb58 := hb57.trans (hb8.mono hb57.size)
          have hR8 := hR7.below hb8
          have g8 := cNo q7 sn d7 w8 hr8 (by omega) se
          clear g7 hB7 hb57 hR7 cCh hr8
          go_wp2_with fail
          refine g8.mono ?_
          rintro o w9 ⟨rfl, hb9⟩
          have hB9 := hB8.trans (hb9.mono (by have := hB8.size; have := Hhw.out; omega))
          have hb59 := hb58.trans (hb9.mono hb58.size)
          have hR9 := hR8.below hb9
          clear g8 hB8 hb58 hR8 cNo
          go_wp2_with fail
          refine (cAll w9).mono ?_
          rintro o wa ⟨pa, ca, rfl, hOa, hba⟩
          have hBa := hB9.trans (hba.mono (by have := hB9.size; have := Hhw.out; omega))
          have hb5a := hb59.trans (hba.mono hb59.size)
          have hRa := hR9.below hba
          have ge := equalI_same p7 pa (pop X) c7 ca _ wa hRa hOa.rd (by omega)
          clear hB9 hb59 hR9 cAll hOa
          go_wp2_with fail
          refine ge.mono ?_
          rintro o wb ⟨rfl, hbb⟩
          have hBb := hBa.trans (hbb.mono (by have := hBa.size; have := Hhw.out; omega))
          have hb5b := hb5a.trans (hbb.mono hb5a.size)
          have htb : Tab wb := ht0b.below hb5b
          clear ge hBa hb5a
          go_wp2_with fail
          refine (hA _ htb).mono ?_
          rintro r9 wz ⟨rfl, hbz⟩
          go_wp2_with fail
          go_ret
          exact ⟨rfl, hBb.trans (hbz.mono (by have := hBb.size; have := Hhw.out; omega))⟩
        · obtain ⟨he1, hcm, hal1, H', happ⟩ := safe_next (s := s) (by rw [Hse.out, Hsm.out] ; exact (by have := Hok.out.chk; rw [Hse.out, Hsm.out] at this; exact this)) (by have := HatS.out; omega) hso
          dsimp only at he1 hcm hal1 happ
          have Happ : Hid (s.app (s.at_ + 1) (putAll [k0, k1, k2, k3]) = (0, ⟨e', ms', s.at_ + 1, H'⟩)) := happ
          have hL28 := putAll_len (l := [k0, k1, k2, k3]) (wd4 hcm)
          have hBy := putAll_by [k0, k1, k2, k3]
          have cPu := lPut_ok k0 k1 k2 k3 w3 hcm
          have hlive : Lively al s.ms := by rw [← Hrd.out]; exact readyA_lively Hck.out
          obtain ⟨hc', _, hmu'⟩ := next_less Hok.out.chk hlive hso
          have hmu2 : muA al s.ms = muA al m0 := by rw [← Hrd.out, readyA_map Hck.out]; exact mu_ready m0
          have hmu3 : (k + 1) + muA al ms' ≤ 12 := by have := Hmu.out; omega
          have hst' : ∃ l', Steps al [h0, h1, h2, h3, h4, h5] [v0, v1, v2] e' ms' l' e2 ms2 := by
            have hq1 := HSt.out
            have hso2 : nextR al [h0, h1, h2, h3, h4, h5] [v0, v1, v2] e0 (readyA al e0 m0) = some (⟨k0, k1, k2, k3⟩, e', ms') := by rw [Hrd.out, ← He.out]; exact hso
            clear hso
            cases l with
            | nil =>
              have h2 := (Steps.out0 hq1).1
              rw [hso2] at h2
              cases h2
            | cons y l' =>
              have ⟨a1, a2, h2, h3⟩ := Steps.out1 hq1
              rw [hso2] at h2
              cases h2
              exact ⟨l', h3⟩
          obtain ⟨l', hst2⟩ := hst'
          have HSt2 : Hid (Steps al [h0, h1, h2, h3, h4, h5] [v0, v1, v2] e' ms' l' e2 ms2) := hst2
          have Hmu3 : Hid ((k + 1) + muA al ms' ≤ 12) := hmu3
          have Hal1 : Hid (k0 = 1 → hasN al k1 = false) := hal1
          obtain ⟨xs8, Hx8⟩ : ∃ z, Hid (putAll [k0, k1, k2, k3] = z) := ⟨_, rfl⟩
          rw [Hx8.out] at Happ hL28 hBy cPu
          have hln : xs8.length ≤ 1099511627776 := by have : (4 : Nat) = [k0, k1, k2, k3].length := rfl; omega
          obtain ⟨ln, Hln⟩ : ∃ z, Hid (xs8.length = z) := ⟨_, rfl⟩
          rw [Hln.out] at cPu hln
          obtain ⟨z0, z1, z2, z3⟩ := hC3.four
          have hats := HatS.out
          have hsat := Hok.out.at0
          clear happ hso he1 hcm hL28 hlive hc' hmu' hmu2 hmu3 hst2 hal1 Hcase hpc Hx8 HSt Hmu
          go_wp2_with fail
          refine cPu.mono ?_
          rintro o w4 ⟨v, rfl, p8, c8, rfl, hO8, hb4⟩
          have hL4 := hL3.below hb4
          have hB4 := hB3.trans (hb4.mono hB3.size)
          have hR8 := hO8.rd
          have cAt := At_any g r s w4 hL4
          have cAp := Apply_any g r s w4 hL4 Hok.out (s.at_ + 1) p8 ln c8 xs8 hR8 hBy hln
          rw [Happ.out] at cAp
          have hwi : IntKind.i64.wrap (s.at_ + 1) = s.at_ + 1 := by rw [IntKind.wrap_i64]; omega
          obtain ⟨z0, z1, z2, z3⟩ := (hC3.below hb4).four
          have hok5 : (⟨e', ms', s.at_ + 1, H'⟩ : PL).ok := by have h1 := PL.app_ok Hok.out (s.at_ + 1) xs8; rw [Happ.out] at h1; exact h1
          have Hok5 : Hid (⟨e', ms', s.at_ + 1, H'⟩ : PL).ok := hok5
          have hHa := fun W => has_any al k1 W hal
          clear cPu hO8 hL3 hB3 hC3 hR8 hH3 hV3 ht3 hok5
          by_cases hk1 : k0 = 1
          · have hh := Hal1.out hk1
            rw [hh] at hHa
            subst hk1
            go_wp2_with fail
            refine (hHa _).mono ?_
            rintro o w5 ⟨rfl, hw5⟩
            subst hw5
            go_wp2_with fail
            refine cAt.mono ?_
            rintro o w5 ⟨rfl, hw5⟩
            subst hw5
            go_wp2_with fail
            refine cAp.mono ?_
            rintro o w6 ⟨rfl, hAf, hEx⟩
            obtain ⟨r', hr', hL5⟩ := hAf
            have hb5 := hB4.trans (hEx.below Hg.out hrB hB4.size)
            have hrB' : wB.heap.size ≤ r' := by have := hB4.size; rcases hr' with rfl | h <;> omega
            clear cAp cAt hHa hEx hr'
            go_wp2_with fail
            go_roundw
            case rel => exact ⟨k + 1, by go_num, r', _, l', hL5, Hok5.out, hrB', by show s.at_ + 1 ≤ _; have := Hat.out; omega, Hmu3.out, HSt2.out, hb5⟩
            case measure => simp [intOf]; omega
          · have hkd : (k0 == 1) = false := by simpa using hk1
            have hkd2 : decide (k0 = 1) = false := decide_eq_false hk1
            clear hHa
            go_wp2_with fail
            refine cAt.mono ?_
            rintro o w5 ⟨rfl, hw5⟩
            subst hw5
            go_wp2_with fail
            refine cAp.mono ?_
            rintro o w6 ⟨rfl, hAf, hEx⟩
            obtain ⟨r', hr', hL5⟩ := hAf
            have hb5 := hB4.trans (hEx.below Hg.out hrB hB4.size)
            have hrB' : wB.heap.size ≤ r' := by have := hB4.size; rcases hr' with rfl | h <;> omega
            clear cAp cAt hEx hr'
            go_wp2_with fail
            go_roundw
            case rel => exact ⟨k + 1, by go_num, r', _, l', hL5, Hok5.out, hrB', by show s.at_ + 1 ≤ _; have := Hat.out; omega, Hmu3.out, HSt2.out, hb5⟩
            case measure => simp [intOf]; omega

end Go.Proofs.YtigojnpjpagfjaaDoor.M
