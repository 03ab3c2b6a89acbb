/-
  Own text: the plain mathematics of reading numbers and records: what is put is read, what is read was put, a record that is cut off, a record of which one byte is turned.
-/
import Derived.Test.YtphdbpljgilcgaaDoorRec
namespace Go.Proofs.YtphdbpljgilcgaaDoor.M
open Go.RowKit

theorem pow7_succ (i : Nat) : 2 ^ (7 * (i + 1)) = 128 * 2 ^ (7 * i) := by rw [show 7 * (i + 1) = 7 * i + 7 by omega, Nat.pow_add, Nat.mul_comm]

theorem pow7_pos (i : Nat) : 0 < 2 ^ (7 * i) := Nat.pow_pos (by decide)

theorem mul_split (m p : Nat) : m * p = m % 128 * p + m / 128 * (128 * p) := by
  have h := Nat.mod_add_div m 128
  have e : m * p = (m % 128 + 128 * (m / 128)) * p := by rw [h]
  rw [e, Nat.add_mul, Nat.mul_assoc, Nat.mul_left_comm]

/-- The number has room at place i. -/
theorem room_small {i m : Nat} (hi : i ≤ 9) (hm : m * 2 ^ (7 * i) < 18446744073709551616) : i = 9 → m ≤ 1 := by
  rintro rfl
  have e : (2 : Nat) ^ (7 * 9) = 9223372036854775808 := by decide
  rw [e] at hm
  omega

theorem room_great {i m : Nat} (hi : i ≤ 9) (hm : m * 2 ^ (7 * i) < 18446744073709551616) (h : 128 ≤ m) : i < 9 := by
  rcases Nat.lt_or_ge i 9 with h1 | h1
  · exact h1
  · have := room_small hi hm (by omega)
    omega

theorem toNat128 (m : Nat) : (((128 + m % 128 : Nat) : Int)).toNat = 128 + m % 128 := rfl

theorem numG_putL (m : Nat) : ∀ (i acc : Nat) (rest : List Int), i ≤ 9 → m * 2 ^ (7 * i) < 18446744073709551616 → (0 < m ∨ i = 0) →
    numG i acc (putL m ++ rest) = (acc + m * 2 ^ (7 * i), i + (putL m).length, 0) := by
  induction m using Nat.strongRecOn with
  | _ m ih =>
    intro i acc rest hi hm h0
    by_cases h : m < 128
    · rw [putL_small h]
      have h9 := room_small hi hm
      have e : ((m : Int)).toNat = m := rfl
      simp only [List.cons_append, List.nil_append, numG, e, List.length_cons, List.length_nil]
      rw [if_neg (by omega), if_neg (by omega), if_pos h, show m % 128 = m by omega]
    · rw [putL_great (by omega)]
      have h9 := room_great hi hm (by omega)
      simp only [List.cons_append, numG, toNat128, List.length_cons]
      rw [if_neg (by omega), if_neg (by omega), if_neg (by omega), show (128 + m % 128) % 128 = m % 128 by omega]
      have hs := mul_split m (2 ^ (7 * i))
      rw [ih (m / 128) (by omega) (i + 1) _ rest (by omega) (by rw [pow7_succ]; omega) (Or.inl (by omega)), pow7_succ]
      rw [show acc + m % 128 * 2 ^ (7 * i) + m / 128 * (128 * 2 ^ (7 * i)) = acc + m * 2 ^ (7 * i) by omega, show i + 1 + (putL (m / 128)).length = i + ((putL (m / 128)).length + 1) by omega]

theorem numR_putL {m : Nat} (h : m < 18446744073709551616) (rest : List Int) : numR (putL m ++ rest) = (m, (putL m).length, 0) := by
  unfold numR
  rw [numG_putL m 0 0 rest (by decide) (by simpa using h) (Or.inr rfl)]
  simp

theorem numG_cut (m : Nat) : ∀ (i acc t : Nat), i ≤ 9 → m * 2 ^ (7 * i) < 18446744073709551616 → t < (putL m).length → numG i acc ((putL m).take t) = (0, 0, 2) := by
  induction m using Nat.strongRecOn with
  | _ m ih =>
    intro i acc t hi hm ht
    by_cases h : m < 128
    · rw [putL_small h] at ht ⊢
      obtain rfl : t = 0 := by simpa using ht
      rfl
    · rw [putL_great (by omega)] at ht ⊢
      have h9 := room_great hi hm (by omega)
      cases t with
      | zero => rfl
      | succ t =>
        simp only [List.take_succ_cons, numG, toNat128]
        rw [if_neg (by omega), if_neg (by omega), if_neg (by omega)]
        have hs := mul_split m (2 ^ (7 * i))
        exact ih (m / 128) (by omega) (i + 1) _ t (by omega) (by rw [pow7_succ]; omega) (by simpa using ht)

theorem numR_cut {m t : Nat} (h : m < 18446744073709551616) (ht : t < (putL m).length) : numR ((putL m).take t) = (0, 0, 2) :=
  numG_cut m 0 0 t (by decide) (by simpa using h) ht

/-- Past the tenth byte there is no number. -/
theorem numG_past : ∀ (xs : List Int) (i acc : Nat), By xs → 9 < i → (numG i acc xs).2.2 ≠ 0
  | [], i, acc, _, _ => by simp [numG]
  | c :: r, i, acc, hb, hi => by
    have hc := hb c (by simp)
    simp only [numG]
    by_cases h1 : 0 < c.toNat % 128
    · rw [if_pos (Or.inr ⟨hi, h1⟩)]; decide
    · rw [if_neg (by omega)]
      by_cases h2 : c.toNat = 0
      · rw [if_pos ⟨h2, by omega⟩]; decide
      · rw [if_neg (by omega), if_neg (by omega)]
        exact numG_past r (i + 1) _ (fun y hy => hb y (by simp [hy])) (by omega)

theorem word_split {i : Nat} (h : i ≤ 8) : 18446744073709551616 = 128 * 2 ^ (7 * i) * 2 ^ (57 - 7 * i) := by
  rw [← pow7_succ, ← Nat.pow_add, show 7 * (i + 1) + (57 - 7 * i) = 64 by omega]

theorem numG_form : ∀ (xs : List Int) (i acc : Nat), By xs → i ≤ 9 → (numG i acc xs).2.2 = 0 →
    ∃ m, m * 2 ^ (7 * i) < 18446744073709551616 ∧ (0 < m ∨ i = 0) ∧ numG i acc xs = (acc + m * 2 ^ (7 * i), i + (putL m).length, 0) ∧ ∃ rest, xs = putL m ++ rest
  | [], i, acc, _, _, h => by simp [numG] at h
  | c :: r, i, acc, hb, hi, h => by
    have hc := hb c (by simp)
    simp only [numG] at h ⊢
    by_cases h1 : (i = 9 ∧ 1 < c.toNat % 128) ∨ (9 < i ∧ 0 < c.toNat % 128)
    · rw [if_pos h1] at h; simp at h
    · rw [if_neg h1] at h ⊢
      by_cases h2 : c.toNat = 0 ∧ 0 < i
      · rw [if_pos h2] at h; simp at h
      · rw [if_neg h2] at h ⊢
        by_cases h3 : c.toNat < 128
        · rw [if_pos h3]
          have hsh := shift_lt (k := i) (l := c.toNat % 128) hi (by omega) (by omega)
          have e : c.toNat % 128 = c.toNat := by omega
          rw [e] at hsh ⊢
          have ec : ((c.toNat : Nat) : Int) = c := by omega
          refine ⟨c.toNat, by omega, by omega, ?_, r, ?_⟩
          · rw [putL_small h3]; rfl
          · rw [putL_small h3, ec]; rfl
        · rw [if_neg h3] at h ⊢
          by_cases h9 : i < 9
          · obtain ⟨m, hm1, hm2, hm3, rest, hm4⟩ := numG_form r (i + 1) _ (fun y hy => hb y (by simp [hy])) (by omega) h
            have hm0 : 0 < m := by omega
            have hs := mul_split (c.toNat % 128 + 128 * m) (2 ^ (7 * i))
            have d1 : (c.toNat % 128 + 128 * m) % 128 = c.toNat % 128 := by omega
            have d2 : (c.toNat % 128 + 128 * m) / 128 = m := by omega
            rw [d1, d2] at hs
            have hg : putL (c.toNat % 128 + 128 * m) = c :: putL m := by
              rw [putL_great (by omega), d1, d2]
              congr 1
              omega
            rw [pow7_succ] at hm1 hm3
            refine ⟨c.toNat % 128 + 128 * m, ?_, Or.inl (by omega), ?_, rest, ?_⟩
            · have hlt : c.toNat % 128 * 2 ^ (7 * i) < 128 * 2 ^ (7 * i) := Nat.mul_lt_mul_of_pos_right (by omega) (pow7_pos i)
              have hd := word_split (i := i) (by omega)
              rw [hs]
              generalize hQ : 128 * 2 ^ (7 * i) = Q at hm1 hlt hd ⊢
              generalize hT : 2 ^ (57 - 7 * i) = T at hd
              rw [hd, Nat.mul_comm m Q] at hm1
              have : m < T := Nat.lt_of_mul_lt_mul_left hm1
              have h2 : Q * (m + 1) ≤ Q * T := Nat.mul_le_mul (Nat.le_refl _) this
              rw [Nat.mul_add, Nat.mul_one] at h2
              rw [Nat.mul_comm m Q]
              omega
            · rw [hm3, hg, hs, List.length_cons]
              rw [show acc + c.toNat % 128 * 2 ^ (7 * i) + m * (128 * 2 ^ (7 * i)) = acc + (c.toNat % 128 * 2 ^ (7 * i) + m * (128 * 2 ^ (7 * i))) by omega, show i + 1 + (putL m).length = i + ((putL m).length + 1) by omega]
            · rw [hg, hm4]; rfl
          · exact absurd h (numG_past r (i + 1) _ (fun y hy => hb y (by simp [hy])) (by omega))

theorem numR_form {xs : List Int} (hb : By xs) (h : (numR xs).2.2 = 0) : ∃ m, m < 18446744073709551616 ∧ numR xs = (m, (putL m).length, 0) ∧ ∃ rest, xs = putL m ++ rest := by
  obtain ⟨m, h1, _, h3, h4⟩ := numG_form xs 0 0 hb (by decide) h
  refine ⟨m, by simpa using h1, ?_, h4⟩
  unfold numR
  rw [h3]; simp

end Go.Proofs.YtphdbpljgilcgaaDoor.M
