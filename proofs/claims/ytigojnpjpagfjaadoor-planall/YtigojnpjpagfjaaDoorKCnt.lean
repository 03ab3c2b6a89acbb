/-
  Own text: how many bits a word has, in plain mathematics, and the parallel sum that finds them. No program is looked at.
-/
import Derived.WalkKit
import Derived.Laws.BitsAllLaws
namespace Go.Proofs.YtigojnpjpagfjaaDoor.M
open Go.RowKit

/-- How many of the numbers below n are so. -/
def cnt (p : Nat → Bool) : Nat → Nat
  | 0 => 0
  | n + 1 => cnt p n + (p n).toNat

theorem cnt_le (p : Nat → Bool) : ∀ n, cnt p n ≤ n
  | 0 => Nat.le_refl _
  | n + 1 => by
    have h1 := cnt_le p n
    have h2 := Bool.toNat_le (p n)
    unfold cnt
    omega

theorem cnt_congr {p q : Nat → Bool} : ∀ n, (∀ i, i < n → p i = q i) → cnt p n = cnt q n
  | 0, _ => rfl
  | n + 1, h => by
    unfold cnt
    rw [cnt_congr n (fun i hi => h i (by omega)), h n (by omega)]

theorem cnt_add (p : Nat → Bool) (a : Nat) : ∀ b, cnt p (a + b) = cnt p a + cnt (fun i => p (a + i)) b
  | 0 => rfl
  | b + 1 => by
    show cnt p (a + b) + (p (a + b)).toNat = cnt p a + (cnt (fun i => p (a + i)) b + (p (a + b)).toNat)
    rw [cnt_add p a b]
    omega

/-- How many bits a word has. -/
def pop (x : Nat) : Nat := cnt (fun i => x.testBit i) 64

theorem and_cut (u m j k : Nat) (h : j ≤ k) : u &&& ((2 ^ j - 1) + 2 ^ k * m) = u % 2 ^ j + 2 ^ k * ((u / 2 ^ k) &&& m) := by
  have hp : 2 ^ j ≤ 2 ^ k := Nat.pow_le_pow_right (by decide) h
  have h0 : 0 < 2 ^ j := Nat.pow_pos (by decide)
  have h1 : 2 ^ j - 1 < 2 ^ k := by omega
  have h2 : u % 2 ^ j < 2 ^ k := Nat.lt_of_lt_of_le (Nat.mod_lt _ h0) hp
  apply Nat.eq_of_testBit_eq
  intro i
  rw [Nat.testBit_and, Nat.add_comm (2 ^ j - 1), Nat.testBit_two_pow_mul_add _ h1, Nat.add_comm (u % 2 ^ j), Nat.testBit_two_pow_mul_add _ h2]
  by_cases hi : i < k
  · rw [if_pos hi, if_pos hi, Nat.testBit_two_pow_sub_one, Nat.testBit_mod_two_pow, Bool.and_comm]
  · rw [if_neg hi, if_neg hi, Nat.testBit_and, Nat.testBit_div_two_pow, show i - k + k = i by omega]

/-- Ones in the lower half of each of n digits of 2, 4 or 8 bits. -/
def mask1 : Nat → Nat
  | 0 => 0
  | n + 1 => 1 + 4 * mask1 n
def mask2 : Nat → Nat
  | 0 => 0
  | n + 1 => 3 + 16 * mask2 n
def mask3 : Nat → Nat
  | 0 => 0
  | n + 1 => 15 + 256 * mask3 n

theorem mask1_step (u n : Nat) : u &&& mask1 (n + 1) = u % 2 + 4 * ((u / 4) &&& mask1 n) := and_cut u (mask1 n) 1 2 (by decide)
theorem mask2_step (u n : Nat) : u &&& mask2 (n + 1) = u % 4 + 16 * ((u / 16) &&& mask2 n) := and_cut u (mask2 n) 2 4 (by decide)
theorem mask3_step (u n : Nat) : u &&& mask3 (n + 1) = u % 16 + 256 * ((u / 256) &&& mask3 n) := and_cut u (mask3 n) 4 8 (by decide)

theorem mask1_eq : mask1 32 = 6148914691236517205 := by decide +kernel
theorem mask2_eq : mask2 16 = 3689348814741910323 := by decide +kernel
theorem mask3_eq : mask3 8 = 1085102592571150095 := by decide +kernel

/-- The sums of neighbours, digit by digit. -/
def dig2 (x : Nat) : Nat → Nat
  | 0 => 0
  | n + 1 => (x % 2 + x / 2 % 2) + 4 * dig2 (x / 4) n
def dig4 (x : Nat) : Nat → Nat
  | 0 => 0
  | n + 1 => (x % 2 + x / 2 % 2 + (x / 4 % 2 + x / 8 % 2)) + 16 * dig4 (x / 16) n
def dig8 (x : Nat) : Nat → Nat
  | 0 => 0
  | n + 1 => (x % 2 + x / 2 % 2 + (x / 4 % 2 + x / 8 % 2) + (x / 16 % 2 + x / 32 % 2 + (x / 64 % 2 + x / 128 % 2))) + 256 * dig8 (x / 256) n

theorem sum1 : ∀ (n x : Nat), ((x / 2) &&& mask1 n) + (x &&& mask1 n) = dig2 x n
  | 0, x => by simp [mask1, dig2]
  | n + 1, x => by
    have h := sum1 n (x / 4)
    rw [mask1_step, mask1_step, dig2, show x / 2 / 4 = x / 4 / 2 by omega]
    omega

theorem dig2_two (x n : Nat) : dig2 x (n + 2) = (x % 2 + x / 2 % 2) + 4 * (x / 4 % 2 + x / 8 % 2) + 16 * dig2 (x / 16) n := by
  show (x % 2 + x / 2 % 2) + 4 * ((x / 4 % 2 + x / 4 / 2 % 2) + 4 * dig2 (x / 4 / 4) n) = _
  rw [show x / 4 / 2 = x / 8 by omega, show x / 4 / 4 = x / 16 by omega]
  omega

theorem sum2 : ∀ (n x : Nat), ((dig2 x (2 * n) / 4) &&& mask2 n) + (dig2 x (2 * n) &&& mask2 n) = dig4 x n
  | 0, x => by simp [mask2, dig4]
  | n + 1, x => by
    have h := sum2 n (x / 16)
    rw [mask2_step, mask2_step, dig4, show 2 * (n + 1) = 2 * n + 2 by omega, dig2_two]
    generalize dig2 (x / 16) (2 * n) = R at h ⊢
    have b0 : x % 2 < 2 := by omega
    have b1 : x / 2 % 2 < 2 := by omega
    have b2 : x / 4 % 2 < 2 := by omega
    have b3 : x / 8 % 2 < 2 := by omega
    generalize x % 2 = c0 at *
    generalize x / 2 % 2 = c1 at *
    generalize x / 4 % 2 = c2 at *
    generalize x / 8 % 2 = c3 at *
    have e1 : (c0 + c1 + 4 * (c2 + c3) + 16 * R) / 16 = R := by omega
    have e2 : (c0 + c1 + 4 * (c2 + c3) + 16 * R) / 4 / 16 = R / 4 := by omega
    rw [e1, e2]
    omega

theorem dig4_two (x n : Nat) : dig4 x (n + 2) = (x % 2 + x / 2 % 2 + (x / 4 % 2 + x / 8 % 2)) + 16 * (x / 16 % 2 + x / 32 % 2 + (x / 64 % 2 + x / 128 % 2)) + 256 * dig4 (x / 256) n := by
  show (x % 2 + x / 2 % 2 + (x / 4 % 2 + x / 8 % 2)) + 16 * ((x / 16 % 2 + x / 16 / 2 % 2 + (x / 16 / 4 % 2 + x / 16 / 8 % 2)) + 16 * dig4 (x / 16 / 16) n) = _
  rw [show x / 16 / 2 = x / 32 by omega, show x / 16 / 4 = x / 64 by omega, show x / 16 / 8 = x / 128 by omega, show x / 16 / 16 = x / 256 by omega]
  omega

theorem four_le (x : Nat) : x % 2 + x / 2 % 2 + (x / 4 % 2 + x / 8 % 2) ≤ 4 := by omega

theorem dig4_low (x : Nat) : ∀ n, dig4 x n % 16 ≤ 4
  | 0 => by simp [dig4]
  | n + 1 => by
    have := four_le x
    unfold dig4
    omega

theorem sum3 : ∀ (n x : Nat), (dig4 x (2 * n) / 16 + dig4 x (2 * n)) &&& mask3 n = dig8 x n
  | 0, x => by simp [mask3, dig8]
  | n + 1, x => by
    have h := sum3 n (x / 256)
    have hl := dig4_low (x / 256) (2 * n)
    rw [mask3_step, dig8, show 2 * (n + 1) = 2 * n + 2 by omega, dig4_two, ← h]
    have g0 := four_le x
    have g1 : x / 16 % 2 + x / 32 % 2 + (x / 64 % 2 + x / 128 % 2) ≤ 4 := by omega
    generalize x % 2 + x / 2 % 2 + (x / 4 % 2 + x / 8 % 2) = p0 at *
    generalize x / 16 % 2 + x / 32 % 2 + (x / 64 % 2 + x / 128 % 2) = p1 at *
    generalize dig4 (x / 256) (2 * n) = R at *
    have e1 : ((p0 + 16 * p1 + 256 * R) / 16 + (p0 + 16 * p1 + 256 * R)) / 256 = R / 16 + R := by omega
    have e2 : ((p0 + 16 * p1 + 256 * R) / 16 + (p0 + 16 * p1 + 256 * R)) % 16 = p0 + p1 := by omega
    rw [e1, e2]

/-- A byte's bits. -/
def pop8 (x : Nat) : Nat := x % 2 + x / 2 % 2 + (x / 4 % 2 + x / 8 % 2) + (x / 16 % 2 + x / 32 % 2 + (x / 64 % 2 + x / 128 % 2))

theorem pop8_le (x : Nat) : pop8 x ≤ 8 := by unfold pop8; omega

theorem dig8_all (x : Nat) : dig8 x 8 = pop8 x + 256 * (pop8 (x / 256) + 256 * (pop8 (x / 256 / 256) + 256 * (pop8 (x / 256 / 256 / 256) + 256 * (pop8 (x / 256 / 256 / 256 / 256) + 256 * (pop8 (x / 256 / 256 / 256 / 256 / 256) + 256 * (pop8 (x / 256 / 256 / 256 / 256 / 256 / 256) + 256 * pop8 (x / 256 / 256 / 256 / 256 / 256 / 256 / 256))))))) := rfl

theorem bit_num (x i : Nat) : (x.testBit i).toNat = x / 2 ^ i % 2 := by
  rw [Nat.testBit_eq_decide_div_mod_eq]
  by_cases h : x / 2 ^ i % 2 = 1
  · rw [decide_eq_true h, h]; rfl
  · rw [decide_eq_false h]
    have : x / 2 ^ i % 2 = 0 := by omega
    rw [this]; rfl

theorem cnt_eight (x : Nat) : cnt (fun i => x.testBit i) 8 = pop8 x := by
  simp only [cnt, bit_num]
  unfold pop8
  simp only [Nat.zero_add, Nat.reducePow, Nat.div_one]
  generalize x % 2 = c0
  generalize x / 2 % 2 = c1
  generalize x / 4 % 2 = c2
  generalize x / 8 % 2 = c3
  generalize x / 16 % 2 = c4
  generalize x / 32 % 2 = c5
  generalize x / 64 % 2 = c6
  generalize x / 128 % 2 = c7
  omega

theorem cnt_bytes (x : Nat) : ∀ n, cnt (fun i => x.testBit i) (8 + n) = pop8 x + cnt (fun i => (x / 256).testBit i) n := by
  intro n
  rw [cnt_add, cnt_eight]
  congr 1
  apply cnt_congr
  intro i _
  show x.testBit (8 + i) = (x / 2 ^ 8).testBit i
  rw [Nat.testBit_div_two_pow, Nat.add_comm]

theorem pop_all (x : Nat) : pop x = pop8 x + (pop8 (x / 256) + (pop8 (x / 256 / 256) + (pop8 (x / 256 / 256 / 256) + (pop8 (x / 256 / 256 / 256 / 256) + (pop8 (x / 256 / 256 / 256 / 256 / 256) + (pop8 (x / 256 / 256 / 256 / 256 / 256 / 256) + pop8 (x / 256 / 256 / 256 / 256 / 256 / 256 / 256))))))) := by
  unfold pop
  rw [show 64 = 8 + 56 from rfl, cnt_bytes, show 56 = 8 + 48 from rfl, cnt_bytes, show 48 = 8 + 40 from rfl, cnt_bytes, show 40 = 8 + 32 from rfl, cnt_bytes, show 32 = 8 + 24 from rfl, cnt_bytes, show 24 = 8 + 16 from rfl, cnt_bytes, show 16 = 8 + 8 from rfl, cnt_bytes, cnt_eight]

theorem quarter {s0 s1 s2 s3 S : Nat} (h0 : s0 ≤ 32) (h1 : s1 ≤ 32) (h2 : s2 ≤ 32) (h3 : s3 ≤ 32) : (s0 + 256 * (s1 + 256 * (s2 + 256 * (s3 + 256 * S)))) / 4294967296 = S := by omega

theorem half16 {s0 s1 S : Nat} (h0 : s0 ≤ 16) (h1 : s1 ≤ 16) : (s0 + 256 * (s1 + 256 * S)) / 65536 = S := by omega

theorem fold_digits (q0 q1 q2 q3 q4 q5 q6 q7 e : Nat) (h0 : q0 ≤ 8) (h1 : q1 ≤ 8) (h2 : q2 ≤ 8) (h3 : q3 ≤ 8) (h4 : q4 ≤ 8) (h5 : q5 ≤ 8) (h6 : q6 ≤ 8) (h7 : q7 ≤ 8) (he : e = q0 + 256 * (q1 + 256 * (q2 + 256 * (q3 + 256 * (q4 + 256 * (q5 + 256 * (q6 + 256 * q7))))))) :
    (e + e / 256 + (e + e / 256) / 65536 + (e + e / 256 + (e + e / 256) / 65536) / 4294967296) % 128 = q0 + (q1 + (q2 + (q3 + (q4 + (q5 + (q6 + q7)))))) ∧ e ≤ 1085102592571150095 := by
  refine ⟨?_, by omega⟩
  obtain ⟨E1, hE1⟩ : ∃ E, E = q1 + 256 * (q2 + 256 * (q3 + 256 * (q4 + 256 * (q5 + 256 * (q6 + 256 * q7))))) := ⟨_, rfl⟩
  obtain ⟨E2, hE2⟩ : ∃ E, E = q2 + 256 * (q3 + 256 * (q4 + 256 * (q5 + 256 * (q6 + 256 * q7)))) := ⟨_, rfl⟩
  obtain ⟨E3, hE3⟩ : ∃ E, E = q3 + 256 * (q4 + 256 * (q5 + 256 * (q6 + 256 * q7))) := ⟨_, rfl⟩
  obtain ⟨E4, hE4⟩ : ∃ E, E = q4 + 256 * (q5 + 256 * (q6 + 256 * q7)) := ⟨_, rfl⟩
  obtain ⟨E5, hE5⟩ : ∃ E, E = q5 + 256 * (q6 + 256 * q7) := ⟨_, rfl⟩
  obtain ⟨E6, hE6⟩ : ∃ E, E = q6 + 256 * q7 := ⟨_, rfl⟩
  rw [← hE6] at hE5 hE4 hE3 hE2 hE1 he
  rw [← hE5] at hE4 hE3 hE2 hE1 he
  rw [← hE4] at hE3 hE2 hE1 he
  rw [← hE3] at hE2 hE1 he
  rw [← hE2] at hE1 he
  rw [← hE1] at he
  have a1 : e / 256 = E1 := by clear hE1 hE2 hE3 hE4 hE5 hE6; omega
  have f1 : e + E1 = (q0 + q1) + 256 * ((q1 + q2) + 256 * (E2 + E3)) := by clear hE3 hE4 hE5 hE6 a1; omega
  have a2 : (e + E1) / 65536 = E2 + E3 := by rw [f1]; exact half16 (by omega) (by omega)
  have f2 : e + E1 + (E2 + E3) = (q0 + q1 + q2 + q3) + 256 * ((q1 + q2 + q3 + q4) + 256 * ((q2 + q3 + q4 + q5) + 256 * ((q3 + q4 + q5 + q6) + 256 * (E4 + E5 + E6 + q7)))) := by clear a1 a2 f1; omega
  have a3 : (e + E1 + (E2 + E3)) / 4294967296 = E4 + E5 + E6 + q7 := by rw [f2]; exact quarter (by omega) (by omega) (by omega) (by omega)
  rw [a1, a2, a3]
  have f3 : e + E1 + (E2 + E3) + (E4 + E5 + E6 + q7) = (q0 + (q1 + (q2 + (q3 + (q4 + (q5 + (q6 + q7))))))) + 128 * (2 * (E1 + E2 + E3 + E4 + E5 + E6 + q7)) := by clear a1 a2 a3 f1 f2; omega
  rw [f3, Nat.add_mul_mod_self_left, Nat.mod_eq_of_lt (by clear a1 a2 a3 f1 f2 f3 hE1 hE2 hE3 hE4 hE5 hE6 he; omega)]

theorem pop_sum (x : Nat) : (dig8 x 8 + dig8 x 8 / 256 + (dig8 x 8 + dig8 x 8 / 256) / 65536 + (dig8 x 8 + dig8 x 8 / 256 + (dig8 x 8 + dig8 x 8 / 256) / 65536) / 4294967296) % 128 = pop x ∧ dig8 x 8 ≤ 1085102592571150095 := by
  rw [pop_all]
  exact fold_digits _ _ _ _ _ _ _ _ _ (pop8_le _) (pop8_le _) (pop8_le _) (pop8_le _) (pop8_le _) (pop8_le _) (pop8_le _) (pop8_le _) (dig8_all x)

theorem pop_le (x : Nat) : pop x ≤ 64 := cnt_le _ _

theorem cnt_or_and (p q : Nat → Bool) : ∀ n, cnt (fun i => p i || q i) n + cnt (fun i => p i && q i) n = cnt p n + cnt q n
  | 0 => rfl
  | n + 1 => by
    have h := cnt_or_and p q n
    simp only [cnt]
    have : (p n || q n).toNat + (p n && q n).toNat = (p n).toNat + (q n).toNat := by cases p n <;> cases q n <;> rfl
    omega

theorem cnt_mono {p q : Nat → Bool} : ∀ n, (∀ i, i < n → p i = true → q i = true) → cnt p n ≤ cnt q n
  | 0, _ => Nat.le_refl _
  | n + 1, h => by
    have h1 := cnt_mono n (fun i hi => h i (by omega))
    have h2 := h n (by omega)
    simp only [cnt]
    have : (p n).toNat ≤ (q n).toNat := by
      cases hp : p n
      · exact Nat.zero_le _
      · rw [h2 hp]; exact Nat.le_refl _
    omega

theorem cnt_pos {p : Nat → Bool} : ∀ n, 0 < cnt p n → ∃ i, i < n ∧ p i = true
  | 0, h => absurd h (Nat.lt_irrefl _)
  | n + 1, h => by
    by_cases hp : p n = true
    · exact ⟨n, by omega, hp⟩
    · simp only [cnt] at h
      have : (p n).toNat = 0 := by simp at hp; rw [hp]; rfl
      rw [this] at h
      obtain ⟨i, hi, hx⟩ := cnt_pos n h
      exact ⟨i, by omega, hx⟩

theorem pop_or_and (x y : Nat) : pop (x ||| y) + pop (x &&& y) = pop x + pop y := by
  unfold pop
  rw [← cnt_or_and (fun i => x.testBit i) (fun i => y.testBit i)]
  simp only [Nat.testBit_or, Nat.testBit_and]

theorem pop_and_le (x y : Nat) : pop (x &&& y) ≤ pop y := by
  unfold pop
  apply cnt_mono
  intro i _ h
  rw [Nat.testBit_and, Bool.and_eq_true] at h
  exact h.2

/-- Two sets that have most of a third one share a number of it. -/
theorem pop_share (x y u : Nat) (h1 : pop u < 2 * pop (x &&& u)) (h2 : pop u < 2 * pop (y &&& u)) : 0 < pop (x &&& y &&& u) := by
  have h := pop_or_and (x &&& u) (y &&& u)
  have h3 : pop (x &&& u ||| y &&& u) ≤ pop u := by
    rw [← Nat.and_or_distrib_right]
    exact pop_and_le _ _
  have h4 : x &&& u &&& (y &&& u) = x &&& y &&& u := by
    apply Nat.eq_of_testBit_eq
    intro i
    simp only [Nat.testBit_and]
    cases x.testBit i <;> cases y.testBit i <;> cases u.testBit i <;> rfl
  rw [h4] at h
  omega

theorem and127 (x : Nat) (h : x < 9223372036854775808) : bits .and .i64 (x : Int) 127 = ((x % 128 : Nat) : Int) := by
  show IntKind.i64.wrap ((BitVec.ofInt 64 (x : Int) &&& BitVec.ofInt 64 127).toNat : Int) = _
  rw [BitVec.toNat_and, ofInt_u64 x (by omega), show BitVec.toNat (BitVec.ofInt 64 127) = 2 ^ 7 - 1 from by decide, Nat.and_two_pow_sub_one_eq_mod]
  rw [IntKind.wrap_i64, show (2 : Nat) ^ 7 = 128 from rfl]
  omega

end Go.Proofs.YtigojnpjpagfjaaDoor.M
