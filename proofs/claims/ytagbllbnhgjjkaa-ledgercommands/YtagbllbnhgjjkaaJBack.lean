/-
  Own text: a command's bytes are read as it; bytes that are a command are its bytes.
-/
import Derived.Test.YtagbllbnhgjjkaaJGet2
import Derived.Test.YtagbllbnhgjjkaaJPut
namespace Go.Proofs.Ytagbllbnhgjjkaa.M
open Go.ChangeShapes Go.WideShapes Go.ChangeAt Go.RowKit

theorem wR_putL {m : Nat} (h : m ≤ 1099511627776) (rest : List Int) : wR (putL m ++ rest, 0) = ((m : Int), (rest, 0)) := by
  have e := numR_putL (m := m) (by omega) rest
  unfold wR
  dsimp only
  rw [if_pos rfl, e]
  dsimp only
  rw [if_pos rfl, if_pos h, List.drop_left]

theorem getR_put {k n s e : Int} (h : cmdOk k n s e = true) : getR (putAll [k, n, s, e]) = some (k, n, s, e) := by
  obtain ⟨⟨a1, a2⟩, ⟨b1, b2⟩, ⟨c1, c2⟩, d1, d2⟩ := cmd_lim h
  obtain ⟨k, rfl⟩ := Int.eq_ofNat_of_zero_le (show 0 ≤ k by omega)
  obtain ⟨n, rfl⟩ := Int.eq_ofNat_of_zero_le b1
  obtain ⟨s, rfl⟩ := Int.eq_ofNat_of_zero_le c1
  obtain ⟨e, rfl⟩ := Int.eq_ofNat_of_zero_le (show 0 ≤ e by omega)
  have hp : putAll [(k : Int), (n : Int), (s : Int), (e : Int)] = putL k ++ (putL n ++ (putL s ++ (putL e ++ []))) := by simp [putAll]
  have hc : cmd4 (putAll [(k : Int), (n : Int), (s : Int), (e : Int)]) = ((k : Int), (n : Int), (s : Int), (e : Int), 0) := by
    have hc4 : ∀ X, cmd4 X = ((wR (X, 0)).1, (wR (wR (X, 0)).2).1, (wR (wR (wR (X, 0)).2).2).1, (wR (wR (wR (wR (X, 0)).2).2).2).1, endR (wR (wR (wR (wR (X, 0)).2).2).2).2) := fun _ => rfl
    rw [hc4, hp, wR_putL (m := k) (by omega)]
    dsimp only
    rw [wR_putL (m := n) (by omega)]
    dsimp only
    rw [wR_putL (m := s) (by omega)]
    dsimp only
    rw [wR_putL (m := e) (by omega)]
    rfl
  unfold getR
  rw [hc]
  dsimp only
  rw [if_pos ⟨rfl, h⟩]

theorem wR_err {s : List Int × Nat} (h : s.2 ≠ 0) : wR s = (0, s) := by
  unfold wR
  rw [if_neg h]

theorem wR_form {s : List Int × Nat} (hb : By s.1) (h : (wR s).2.2 = 0) : s.2 = 0 ∧ ∃ m : Nat, (wR s).1 = (m : Int) ∧ s.1 = putL m ++ (wR s).2.1 := by
  obtain ⟨xs, er⟩ := s
  dsimp only at hb
  by_cases h0 : er = 0
  · subst h0
    refine ⟨rfl, ?_⟩
    unfold wR at h ⊢
    dsimp only at h ⊢
    rw [if_pos rfl] at h ⊢
    by_cases h1 : (numR xs).2.2 = 0
    · rw [if_pos h1] at h ⊢
      by_cases h2 : (numR xs).1 ≤ 1099511627776
      · rw [if_pos h2] at h ⊢
        obtain ⟨m, _, e, rest, hx⟩ := numR_form hb h1
        refine ⟨m, by rw [e], ?_⟩
        dsimp only
        rw [e]
        dsimp only
        rw [hx, List.drop_left]
      · rw [if_neg h2] at h
        exact absurd h (by decide : ¬ (5 : Nat) = 0)
    · rw [if_neg h1] at h
      exact absurd h h1
  · rw [wR_err h0] at h
    exact absurd h h0

theorem wR_by {s : List Int × Nat} (hb : By s.1) : By (wR s).2.1 := by
  unfold wR
  split
  · split
    · split
      · exact hb.drop _
      · exact hb
    · exact hb
  · exact hb

theorem getR_form {xs : List Int} (hb : By xs) {k n s e : Int} (h : getR xs = some (k, n, s, e)) : cmdOk k n s e = true ∧ putAll [k, n, s, e] = xs := by
  unfold getR at h
  by_cases hc : (cmd4 xs).2.2.2.2 = 0 ∧ cmdOk (cmd4 xs).1 (cmd4 xs).2.1 (cmd4 xs).2.2.1 (cmd4 xs).2.2.2.1 = true
  · rw [if_pos hc] at h
    obtain ⟨h1, h2⟩ := hc
    simp only [Option.some.injEq, Prod.mk.injEq] at h
    obtain ⟨rfl, rfl, rfl, rfl⟩ := h
    refine ⟨h2, ?_⟩
    have b0 : By (xs, 0).1 := hb
    have b1 := wR_by b0
    have b2 := wR_by b1
    have b3 := wR_by b2
    have e4 : endR (wR (wR (wR (wR (xs, 0)).2).2).2).2 = 0 := h1
    have z4 : (wR (wR (wR (wR (xs, 0)).2).2).2).2.2 = 0 := by
      unfold endR at e4
      by_cases hz : (wR (wR (wR (wR (xs, 0)).2).2).2).2.2 = 0
      · exact hz
      · rw [if_neg hz] at e4
        omega
    have r4 : (wR (wR (wR (wR (xs, 0)).2).2).2).2.1 = [] := by
      unfold endR at e4
      rw [if_pos z4] at e4
      by_cases hz : (wR (wR (wR (wR (xs, 0)).2).2).2).2.1 = []
      · exact hz
      · rw [if_neg hz] at e4
        exact absurd e4 (by decide)
    obtain ⟨z3, m4, v4, f4⟩ := wR_form b3 z4
    obtain ⟨z2, m3, v3, f3⟩ := wR_form b2 z3
    obtain ⟨z1, m2, v2, f2⟩ := wR_form b1 z2
    obtain ⟨_, m1, v1, f1⟩ := wR_form b0 z1
    show putAll [(wR (xs, 0)).1, (wR (wR (xs, 0)).2).1, (wR (wR (wR (xs, 0)).2).2).1, (wR (wR (wR (wR (xs, 0)).2).2).2).1] = xs
    rw [v1, v2, v3, v4]
    have hp : putAll [(m1 : Int), (m2 : Int), (m3 : Int), (m4 : Int)] = putL m1 ++ (putL m2 ++ (putL m3 ++ (putL m4 ++ []))) := by simp [putAll]
    rw [hp, ← r4, ← f4, ← f3, ← f2]
    exact f1.symm
  · rw [if_neg hc] at h
    cases h

end Go.Proofs.Ytagbllbnhgjjkaa.M
