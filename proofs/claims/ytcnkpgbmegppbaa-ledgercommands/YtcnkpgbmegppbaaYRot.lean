/-
  Own text: what a stable sort of many members calls: exchanges of ranges, turns. Only that they come back, and that the row holds as many members.
-/
import Derived.Test.YtcnkpgbmegppbaaYSort
namespace Go.Proofs.Ytcnkpgbmegppbaa.M
open Go.ChangeShapes Go.WideShapes Go.ChangeAt Go.RowKit

set_option maxRecDepth 20000 in
set_option maxHeartbeats 2000000 in
theorem swapR_any (w : World) (g N : Nat) (L : List Mb) (a b m : Nat) (hR : Row w g N L) (hab : a < b) (hbn : b + m ≤ L.length) (hn : L.length ≤ 1099511627776) :
    Calls Try.prog 92 #[.slice (some ⟨g, 0, none⟩) L.length N, .int .i64 a, .int .i64 b, .int .i64 m, .func (.func 66) #[] #[]] w fun e w' => e = .returned (.tuple #[]) ∧ ∃ M, M.length = L.length ∧ Row w' g N M ∧ Ex g w w' := by
  have hNl := hR.le
  generalize hn0 : L.length = n at *
  go_enter Try.func92, Try.ntmps92
  go_wp2_with fail
  go_loopw [10] (fun i wr => ∃ (k : Nat) (M : List Mb), k ≤ m ∧ i = .int .i64 k ∧ M.length = n ∧ Row wr g N M ∧ Ex g w wr) (fun i _ => m - (intOf i).toNat)
  case atStart => exact ⟨0, L, Nat.zero_le _, by go_num, hn0, hR, Ex.refl _ _⟩
  case round =>
    clear hR
    obtain ⟨k, M, hk2, rfl, hM, hR, hb⟩ := hrel
    by_cases h : k < m
    · have hkb : (k : Int) < (m : Int) := by omega
      obtain ⟨x1, x2, x3⟩ := hR.at (i := a + k) (by omega)
      obtain ⟨y1, y2, y3⟩ := hR.at (i := b + k) (by omega)
      have f1 : wr.frozen? ⟨g, (a + k) * 3, none⟩ = false := (hR.thereAt (i := a + k) (by omega) 0 (by decide)).2
      have f2 : wr.frozen? ⟨g, (a + k) * 3 + 1, none⟩ = false := (hR.thereAt (i := a + k) (by omega) 1 (by decide)).2
      have f3 : wr.frozen? ⟨g, (a + k) * 3 + 2, none⟩ = false := (hR.thereAt (i := a + k) (by omega) 2 (by decide)).2
      have f4 : wr.frozen? ⟨g, (b + k) * 3, none⟩ = false := (hR.thereAt (i := b + k) (by omega) 0 (by decide)).2
      have f5 : wr.frozen? ⟨g, (b + k) * 3 + 1, none⟩ = false := (hR.thereAt (i := b + k) (by omega) 1 (by decide)).2
      have f6 : wr.frozen? ⟨g, (b + k) * 3 + 2, none⟩ = false := (hR.thereAt (i := b + k) (by omega) 2 (by decide)).2
      generalize M.getD (a + k) .z0 = X at *
      generalize M.getD (b + k) .z0 = Y at *
      obtain ⟨Xn, Xs, Xf⟩ := X
      obtain ⟨Yn, Ys, Yf⟩ := Y
      dsimp only at x1 x2 x3 y1 y2 y3
      have hR3 : Row ((((((wr.setCell ⟨g, (a + k) * 3, none⟩ (.int .i64 Yn)).setCell ⟨g, (a + k) * 3 + 1, none⟩ (.int .i64 Ys)).setCell ⟨g, (a + k) * 3 + 2, none⟩ (.bool Yf)).setCell ⟨g, (b + k) * 3, none⟩ (.int .i64 Xn)).setCell ⟨g, (b + k) * 3 + 1, none⟩ (.int .i64 Xs)).setCell ⟨g, (b + k) * 3 + 2, none⟩ (.bool Xf)) g N ((M.set (a + k) ⟨Yn, Ys, Yf⟩).set (b + k) ⟨Xn, Xs, Xf⟩) :=
        (hR.set (i := a + k) (by omega) ⟨Yn, Ys, Yf⟩).set (i := b + k) (by rw [List.length_set]; omega) ⟨Xn, Xs, Xf⟩
      have hb3 : Ex g w ((((((wr.setCell ⟨g, (a + k) * 3, none⟩ (.int .i64 Yn)).setCell ⟨g, (a + k) * 3 + 1, none⟩ (.int .i64 Ys)).setCell ⟨g, (a + k) * 3 + 2, none⟩ (.bool Yf)).setCell ⟨g, (b + k) * 3, none⟩ (.int .i64 Xn)).setCell ⟨g, (b + k) * 3 + 1, none⟩ (.int .i64 Xs)).setCell ⟨g, (b + k) * 3 + 2, none⟩ (.bool Xf)) :=
        Ex.setC (Mb.cs ⟨Xn, Xs, Xf⟩) ((b + k) * 3) _ (Ex.setC (Mb.cs ⟨Yn, Ys, Yf⟩) ((a + k) * 3) _ hb)
      have ne : a + k ≠ b + k := by omega
      have q1 : (a : Int) + (k : Int) < (n : Int) := by omega
      have q2 : (b : Int) + (k : Int) < (n : Int) := by omega
      have p1 : (0 : Int) ≤ (a : Int) + (k : Int) := by omega
      have p2 : (0 : Int) ≤ (b : Int) + (k : Int) := by omega
      have t1 : ((a : Int) + (k : Int)).toNat = a + k := by omega
      have t2 : ((b : Int) + (k : Int)).toNat = b + k := by omega
      have w1 : IntKind.i64.wrap ((a : Int) + (k : Int)) = (a : Int) + (k : Int) := by rw [IntKind.wrap_i64]; omega
      have w2 : IntKind.i64.wrap ((b : Int) + (k : Int)) = (b : Int) + (k : Int) := by rw [IntKind.wrap_i64]; omega
      go_wp2_with fail
      go_region
      generalize ((((((wr.setCell ⟨g, (a + k) * 3, none⟩ (.int .i64 Yn)).setCell ⟨g, (a + k) * 3 + 1, none⟩ (.int .i64 Ys)).setCell ⟨g, (a + k) * 3 + 2, none⟩ (.bool Yf)).setCell ⟨g, (b + k) * 3, none⟩ (.int .i64 Xn)).setCell ⟨g, (b + k) * 3 + 1, none⟩ (.int .i64 Xs)).setCell ⟨g, (b + k) * 3 + 2, none⟩ (.bool Xf)) = W3 at *
      go_wp2_with fail
      go_roundw
      case rel => exact ⟨k + 1, _, by omega, by go_num, by rw [List.length_set, List.length_set]; exact hM, hR3.up ((Below.refl _ _).drew), hb3.drew⟩
      case measure => simp [intOf]; omega
    · have hkb : ¬ (k : Int) < (m : Int) := by omega
      go_wp2_with fail
      go_end0
      exact ⟨rfl, M, hM, hR, hb⟩

set_option maxRecDepth 20000 in
set_option maxHeartbeats 2000000 in
theorem rotate_any (w : World) (g N : Nat) (L : List Mb) (a m b : Nat) (hR : Row w g N L) (ham : a < m) (hmb : m < b) (hbn : b ≤ L.length) (hn : L.length ≤ 1099511627776) :
    Calls Try.prog 90 #[.slice (some ⟨g, 0, none⟩) L.length N, .int .i64 a, .int .i64 m, .int .i64 b, .func (.func 66) #[] #[]] w fun e w' => e = .returned (.tuple #[]) ∧ ∃ M, M.length = L.length ∧ Row w' g N M ∧ Ex g w w' := by
  generalize hn0 : L.length = n at *
  have v1 : IntKind.i64.wrap ((m : Int) - (a : Int)) = ((m - a : Nat) : Int) := by rw [IntKind.wrap_i64]; omega
  have v2 : IntKind.i64.wrap ((b : Int) - (m : Int)) = ((b - m : Nat) : Int) := by rw [IntKind.wrap_i64]; omega
  go_enter Try.func90, Try.ntmps90
  go_wp2_with fail
  go_loopw [10, 11] (fun x y wr => ∃ (i j : Nat) (M : List Mb), 0 < i ∧ 0 < j ∧ i ≤ m ∧ m + j ≤ n ∧ x = .int .i64 i ∧ y = .int .i64 j ∧ M.length = n ∧ Row wr g N M ∧ Ex g w wr) (fun x y _ => (intOf x).toNat + (intOf y).toNat)
  case atStart => exact ⟨m - a, b - m, L, by omega, by omega, by omega, by omega, by first | rfl | go_num, by first | rfl | go_num, hn0, hR, Ex.refl _ _⟩
  case round =>
    clear hR v1 v2
    obtain ⟨i, j, M, hi, hj, him, hjn, rfl, rfl, hM, hR, hb⟩ := hrel
    have u1 : IntKind.i64.wrap ((m : Int) - (i : Int)) = ((m - i : Nat) : Int) := by rw [IntKind.wrap_i64]; omega
    rcases Nat.lt_trichotomy i j with hij | hij | hij
    · have hS := swapR_any wr g N M (m - i) (m + j - i) i hR (by omega) (by omega) (by omega)
      rw [hM] at hS
      have hne : ((i : Int) != (j : Int)) = true := by simp; omega
      have hgt : ¬ (j : Int) < (i : Int) := by omega
      have u2 : IntKind.i64.wrap ((m : Int) + (j : Int)) = (m : Int) + (j : Int) := by rw [IntKind.wrap_i64]; omega
      have u3 : IntKind.i64.wrap ((m : Int) + (j : Int) - (i : Int)) = ((m + j - i : Nat) : Int) := by rw [IntKind.wrap_i64]; omega
      have u4 : IntKind.i64.wrap ((j : Int) - (i : Int)) = ((j - i : Nat) : Int) := by rw [IntKind.wrap_i64]; omega
      generalize hx1 : m - i = s1 at *
      generalize hx2 : m + j - i = s2 at *
      generalize hx3 : j - i = s3 at *
      go_wp2_with fail
      refine hS.mono ?_
      rintro r w1 ⟨rfl, M1, hM1, hR1, hb1⟩
      go_wp2_with fail
      go_roundw
      case rel => exact ⟨i, s3, M1, by omega, by omega, by omega, by omega, by first | rfl | go_num, by first | rfl | go_num, hM1, hR1, hb.trans hb1⟩
      case measure => simp [intOf]; omega
    · subst hij
      have hS := swapR_any wr g N M (m - i) m i hR (by omega) (by omega) (by omega)
      rw [hM] at hS
      generalize hx1 : m - i = s1 at *
      go_wp2_with fail
      refine hS.mono ?_
      rintro r w1 ⟨rfl, M1, hM1, hR1, hb1⟩
      go_wp2_with fail
      go_end0
      exact ⟨rfl, M1, hM1, hR1, hb.trans hb1⟩
    · have hS := swapR_any wr g N M (m - i) m j hR (by omega) (by omega) (by omega)
      rw [hM] at hS
      have hne : ((i : Int) != (j : Int)) = true := by simp; omega
      have hgt : (j : Int) < (i : Int) := by omega
      have u4 : IntKind.i64.wrap ((i : Int) - (j : Int)) = ((i - j : Nat) : Int) := by rw [IntKind.wrap_i64]; omega
      generalize hx1 : m - i = s1 at *
      generalize hx3 : i - j = s3 at *
      go_wp2_with fail
      refine hS.mono ?_
      rintro r w1 ⟨rfl, M1, hM1, hR1, hb1⟩
      go_wp2_with fail
      go_roundw
      case rel => exact ⟨s3, j, M1, by omega, by omega, by omega, by omega, by first | rfl | go_num, by first | rfl | go_num, hM1, hR1, hb.trans hb1⟩
      case measure => simp [intOf]; omega

end Go.Proofs.Ytcnkpgbmegppbaa.M
