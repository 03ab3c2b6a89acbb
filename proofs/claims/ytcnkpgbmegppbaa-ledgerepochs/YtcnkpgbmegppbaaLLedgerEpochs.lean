/-
  Own text: how many bits a word has, in plain mathematics, and the parallel sum that finds them. No program is looked at.
  Own text: the contract of mask's Len.
  Own text: each chain that began comes of the one ahead of it, in plain words.
  Own text: a ledger's chains as they began: contracts of of and Of.
  Own text: a ledger that changes of other blocks leave alone.
  Own text: the walk of the statement 'LedgerEpochs'.
-/
import Derived.WalkKit
import Derived.Laws.BitsAllLaws
import Derived.Test.YtcnkpgbmegppbaaYBase
import Derived.Test.YtcnkpgbmegppbaaJBig
import Derived.Test.YtcnkpgbmegppbaaJAny
namespace Go.Proofs.Ytcnkpgbmegppbaa.M
open Go.RowKit

/-- How many of the numbers below n are so. -/
def cnt (p : Nat → Bool) : Nat → Nat
  | 0 => 0
  | n + 1 => cnt p n + (p n).toNat

theorem cnt_le (p : Nat → Bool) : ∀ n, cnt p n ≤ n
  | 0 => Nat.le_refl _
  | n + 1 => by
    have h1 := cnt_le p n
    have h2 := Bool.toNat_le (p n)
    unfold cnt
    omega

theorem cnt_congr {p q : Nat → Bool} : ∀ n, (∀ i, i < n → p i = q i) → cnt p n = cnt q n
  | 0, _ => rfl
  | n + 1, h => by
    unfold cnt
    rw [cnt_congr n (fun i hi => h i (by omega)), h n (by omega)]

theorem cnt_add (p : Nat → Bool) (a : Nat) : ∀ b, cnt p (a + b) = cnt p a + cnt (fun i => p (a + i)) b
  | 0 => rfl
  | b + 1 => by
    show cnt p (a + b) + (p (a + b)).toNat = cnt p a + (cnt (fun i => p (a + i)) b + (p (a + b)).toNat)
    rw [cnt_add p a b]
    omega

/-- How many bits a word has. -/
def pop (x : Nat) : Nat := cnt (fun i => x.testBit i) 64

theorem and_cut (u m j k : Nat) (h : j ≤ k) : u &&& ((2 ^ j - 1) + 2 ^ k * m) = u % 2 ^ j + 2 ^ k * ((u / 2 ^ k) &&& m) := by
  have hp : 2 ^ j ≤ 2 ^ k := Nat.pow_le_pow_right (by decide) h
  have h0 : 0 < 2 ^ j := Nat.pow_pos (by decide)
  have h1 : 2 ^ j - 1 < 2 ^ k := by omega
  have h2 : u % 2 ^ j < 2 ^ k := Nat.lt_of_lt_of_le (Nat.mod_lt _ h0) hp
  apply Nat.eq_of_testBit_eq
  intro i
  rw [Nat.testBit_and, Nat.add_comm (2 ^ j - 1), Nat.testBit_two_pow_mul_add _ h1, Nat.add_comm (u % 2 ^ j), Nat.testBit_two_pow_mul_add _ h2]
  by_cases hi : i < k
  · rw [if_pos hi, if_pos hi, Nat.testBit_two_pow_sub_one, Nat.testBit_mod_two_pow, Bool.and_comm]
  · rw [if_neg hi, if_neg hi, Nat.testBit_and, Nat.testBit_div_two_pow, show i - k + k = i by omega]

/-- Ones in the lower half of each of n digits of 2, 4 or 8 bits. -/
def mask1 : Nat → Nat
  | 0 => 0
  | n + 1 => 1 + 4 * mask1 n
def mask2 : Nat → Nat
  | 0 => 0
  | n + 1 => 3 + 16 * mask2 n
def mask3 : Nat → Nat
  | 0 => 0
  | n + 1 => 15 + 256 * mask3 n

theorem mask1_step (u n : Nat) : u &&& mask1 (n + 1) = u % 2 + 4 * ((u / 4) &&& mask1 n) := and_cut u (mask1 n) 1 2 (by decide)
theorem mask2_step (u n : Nat) : u &&& mask2 (n + 1) = u % 4 + 16 * ((u / 16) &&& mask2 n) := and_cut u (mask2 n) 2 4 (by decide)
theorem mask3_step (u n : Nat) : u &&& mask3 (n + 1) = u % 16 + 256 * ((u / 256) &&& mask3 n) := and_cut u (mask3 n) 4 8 (by decide)

theorem mask1_eq : mask1 32 = 6148914691236517205 := by decide +kernel
theorem mask2_eq : mask2 16 = 3689348814741910323 := by decide +kernel
theorem mask3_eq : mask3 8 = 1085102592571150095 := by decide +kernel

/-- The sums of neighbours, digit by digit. -/
def dig2 (x : Nat) : Nat → Nat
  | 0 => 0
  | n + 1 => (x % 2 + x / 2 % 2) + 4 * dig2 (x / 4) n
def dig4 (x : Nat) : Nat → Nat
  | 0 => 0
  | n + 1 => (x % 2 + x / 2 % 2 + (x / 4 % 2 + x / 8 % 2)) + 16 * dig4 (x / 16) n
def dig8 (x : Nat) : Nat → Nat
  | 0 => 0
  | n + 1 => (x % 2 + x / 2 % 2 + (x / 4 % 2 + x / 8 % 2) + (x / 16 % 2 + x / 32 % 2 + (x / 64 % 2 + x / 128 % 2))) + 256 * dig8 (x / 256) n

theorem sum1 : ∀ (n x : Nat), ((x / 2) &&& mask1 n) + (x &&& mask1 n) = dig2 x n
  | 0, x => by simp [mask1, dig2]
  | n + 1, x => by
    have h := sum1 n (x / 4)
    rw [mask1_step, mask1_step, dig2, show x / 2 / 4 = x / 4 / 2 by omega]
    omega

theorem dig2_two (x n : Nat) : dig2 x (n + 2) = (x % 2 + x / 2 % 2) + 4 * (x / 4 % 2 + x / 8 % 2) + 16 * dig2 (x / 16) n := by
  show (x % 2 + x / 2 % 2) + 4 * ((x / 4 % 2 + x / 4 / 2 % 2) + 4 * dig2 (x / 4 / 4) n) = _
  rw [show x / 4 / 2 = x / 8 by omega, show x / 4 / 4 = x / 16 by omega]
  omega

theorem sum2 : ∀ (n x : Nat), ((dig2 x (2 * n) / 4) &&& mask2 n) + (dig2 x (2 * n) &&& mask2 n) = dig4 x n
  | 0, x => by simp [mask2, dig4]
  | n + 1, x => by
    have h := sum2 n (x / 16)
    rw [mask2_step, mask2_step, dig4, show 2 * (n + 1) = 2 * n + 2 by omega, dig2_two]
    generalize dig2 (x / 16) (2 * n) = R at h ⊢
    have b0 : x % 2 < 2 := by omega
    have b1 : x / 2 % 2 < 2 := by omega
    have b2 : x / 4 % 2 < 2 := by omega
    have b3 : x / 8 % 2 < 2 := by omega
    generalize x % 2 = c0 at *
    generalize x / 2 % 2 = c1 at *
    generalize x / 4 % 2 = c2 at *
    generalize x / 8 % 2 = c3 at *
    have e1 : (c0 + c1 + 4 * (c2 + c3) + 16 * R) / 16 = R := by omega
    have e2 : (c0 + c1 + 4 * (c2 + c3) + 16 * R) / 4 / 16 = R / 4 := by omega
    rw [e1, e2]
    omega

theorem dig4_two (x n : Nat) : dig4 x (n + 2) = (x % 2 + x / 2 % 2 + (x / 4 % 2 + x / 8 % 2)) + 16 * (x / 16 % 2 + x / 32 % 2 + (x / 64 % 2 + x / 128 % 2)) + 256 * dig4 (x / 256) n := by
  show (x % 2 + x / 2 % 2 + (x / 4 % 2 + x / 8 % 2)) + 16 * ((x / 16 % 2 + x / 16 / 2 % 2 + (x / 16 / 4 % 2 + x / 16 / 8 % 2)) + 16 * dig4 (x / 16 / 16) n) = _
  rw [show x / 16 / 2 = x / 32 by omega, show x / 16 / 4 = x / 64 by omega, show x / 16 / 8 = x / 128 by omega, show x / 16 / 16 = x / 256 by omega]
  omega

theorem four_le (x : Nat) : x % 2 + x / 2 % 2 + (x / 4 % 2 + x / 8 % 2) ≤ 4 := by omega

theorem dig4_low (x : Nat) : ∀ n, dig4 x n % 16 ≤ 4
  | 0 => by simp [dig4]
  | n + 1 => by
    have := four_le x
    unfold dig4
    omega

theorem sum3 : ∀ (n x : Nat), (dig4 x (2 * n) / 16 + dig4 x (2 * n)) &&& mask3 n = dig8 x n
  | 0, x => by simp [mask3, dig8]
  | n + 1, x => by
    have h := sum3 n (x / 256)
    have hl := dig4_low (x / 256) (2 * n)
    rw [mask3_step, dig8, show 2 * (n + 1) = 2 * n + 2 by omega, dig4_two, ← h]
    have g0 := four_le x
    have g1 : x / 16 % 2 + x / 32 % 2 + (x / 64 % 2 + x / 128 % 2) ≤ 4 := by omega
    generalize x % 2 + x / 2 % 2 + (x / 4 % 2 + x / 8 % 2) = p0 at *
    generalize x / 16 % 2 + x / 32 % 2 + (x / 64 % 2 + x / 128 % 2) = p1 at *
    generalize dig4 (x / 256) (2 * n) = R at *
    have e1 : ((p0 + 16 * p1 + 256 * R) / 16 + (p0 + 16 * p1 + 256 * R)) / 256 = R / 16 + R := by omega
    have e2 : ((p0 + 16 * p1 + 256 * R) / 16 + (p0 + 16 * p1 + 256 * R)) % 16 = p0 + p1 := by omega
    rw [e1, e2]

/-- A byte's bits. -/
def pop8 (x : Nat) : Nat := x % 2 + x / 2 % 2 + (x / 4 % 2 + x / 8 % 2) + (x / 16 % 2 + x / 32 % 2 + (x / 64 % 2 + x / 128 % 2))

theorem pop8_le (x : Nat) : pop8 x ≤ 8 := by unfold pop8; omega

theorem dig8_all (x : Nat) : dig8 x 8 = pop8 x + 256 * (pop8 (x / 256) + 256 * (pop8 (x / 256 / 256) + 256 * (pop8 (x / 256 / 256 / 256) + 256 * (pop8 (x / 256 / 256 / 256 / 256) + 256 * (pop8 (x / 256 / 256 / 256 / 256 / 256) + 256 * (pop8 (x / 256 / 256 / 256 / 256 / 256 / 256) + 256 * pop8 (x / 256 / 256 / 256 / 256 / 256 / 256 / 256))))))) := rfl

theorem bit_num (x i : Nat) : (x.testBit i).toNat = x / 2 ^ i % 2 := by
  rw [Nat.testBit_eq_decide_div_mod_eq]
  by_cases h : x / 2 ^ i % 2 = 1
  · rw [decide_eq_true h, h]; rfl
  · rw [decide_eq_false h]
    have : x / 2 ^ i % 2 = 0 := by omega
    rw [this]; rfl

theorem cnt_eight (x : Nat) : cnt (fun i => x.testBit i) 8 = pop8 x := by
  simp only [cnt, bit_num]
  unfold pop8
  simp only [Nat.zero_add, Nat.reducePow, Nat.div_one]
  generalize x % 2 = c0
  generalize x / 2 % 2 = c1
  generalize x / 4 % 2 = c2
  generalize x / 8 % 2 = c3
  generalize x / 16 % 2 = c4
  generalize x / 32 % 2 = c5
  generalize x / 64 % 2 = c6
  generalize x / 128 % 2 = c7
  omega

theorem cnt_bytes (x : Nat) : ∀ n, cnt (fun i => x.testBit i) (8 + n) = pop8 x + cnt (fun i => (x / 256).testBit i) n := by
  intro n
  rw [cnt_add, cnt_eight]
  congr 1
  apply cnt_congr
  intro i _
  show x.testBit (8 + i) = (x / 2 ^ 8).testBit i
  rw [Nat.testBit_div_two_pow, Nat.add_comm]

theorem pop_all (x : Nat) : pop x = pop8 x + (pop8 (x / 256) + (pop8 (x / 256 / 256) + (pop8 (x / 256 / 256 / 256) + (pop8 (x / 256 / 256 / 256 / 256) + (pop8 (x / 256 / 256 / 256 / 256 / 256) + (pop8 (x / 256 / 256 / 256 / 256 / 256 / 256) + pop8 (x / 256 / 256 / 256 / 256 / 256 / 256 / 256))))))) := by
  unfold pop
  rw [show 64 = 8 + 56 from rfl, cnt_bytes, show 56 = 8 + 48 from rfl, cnt_bytes, show 48 = 8 + 40 from rfl, cnt_bytes, show 40 = 8 + 32 from rfl, cnt_bytes, show 32 = 8 + 24 from rfl, cnt_bytes, show 24 = 8 + 16 from rfl, cnt_bytes, show 16 = 8 + 8 from rfl, cnt_bytes, cnt_eight]

theorem quarter {s0 s1 s2 s3 S : Nat} (h0 : s0 ≤ 32) (h1 : s1 ≤ 32) (h2 : s2 ≤ 32) (h3 : s3 ≤ 32) : (s0 + 256 * (s1 + 256 * (s2 + 256 * (s3 + 256 * S)))) / 4294967296 = S := by omega

theorem half16 {s0 s1 S : Nat} (h0 : s0 ≤ 16) (h1 : s1 ≤ 16) : (s0 + 256 * (s1 + 256 * S)) / 65536 = S := by omega

theorem fold_digits (q0 q1 q2 q3 q4 q5 q6 q7 e : Nat) (h0 : q0 ≤ 8) (h1 : q1 ≤ 8) (h2 : q2 ≤ 8) (h3 : q3 ≤ 8) (h4 : q4 ≤ 8) (h5 : q5 ≤ 8) (h6 : q6 ≤ 8) (h7 : q7 ≤ 8) (he : e = q0 + 256 * (q1 + 256 * (q2 + 256 * (q3 + 256 * (q4 + 256 * (q5 + 256 * (q6 + 256 * q7))))))) :
    (e + e / 256 + (e + e / 256) / 65536 + (e + e / 256 + (e + e / 256) / 65536) / 4294967296) % 128 = q0 + (q1 + (q2 + (q3 + (q4 + (q5 + (q6 + q7)))))) ∧ e ≤ 1085102592571150095 := by
  refine ⟨?_, by omega⟩
  obtain ⟨E1, hE1⟩ : ∃ E, E = q1 + 256 * (q2 + 256 * (q3 + 256 * (q4 + 256 * (q5 + 256 * (q6 + 256 * q7))))) := ⟨_, rfl⟩
  obtain ⟨E2, hE2⟩ : ∃ E, E = q2 + 256 * (q3 + 256 * (q4 + 256 * (q5 + 256 * (q6 + 256 * q7)))) := ⟨_, rfl⟩
  obtain ⟨E3, hE3⟩ : ∃ E, E = q3 + 256 * (q4 + 256 * (q5 + 256 * (q6 + 256 * q7))) := ⟨_, rfl⟩
  obtain ⟨E4, hE4⟩ : ∃ E, E = q4 + 256 * (q5 + 256 * (q6 + 256 * q7)) := ⟨_, rfl⟩
  obtain ⟨E5, hE5⟩ : ∃ E, E = q5 + 256 * (q6 + 256 * q7) := ⟨_, rfl⟩
  obtain ⟨E6, hE6⟩ : ∃ E, E = q6 + 256 * q7 := ⟨_, rfl⟩
  rw [← hE6] at hE5 hE4 hE3 hE2 hE1 he
  rw [← hE5] at hE4 hE3 hE2 hE1 he
  rw [← hE4] at hE3 hE2 hE1 he
  rw [← hE3] at hE2 hE1 he
  rw [← hE2] at hE1 he
  rw [← hE1] at he
  have a1 : e / 256 = E1 := by clear hE1 hE2 hE3 hE4 hE5 hE6; omega
  have f1 : e + E1 = (q0 + q1) + 256 * ((q1 + q2) + 256 * (E2 + E3)) := by clear hE3 hE4 hE5 hE6 a1; omega
  have a2 : (e + E1) / 65536 = E2 + E3 := by rw [f1]; exact half16 (by omega) (by omega)
  have f2 : e + E1 + (E2 + E3) = (q0 + q1 + q2 + q3) + 256 * ((q1 + q2 + q3 + q4) + 256 * ((q2 + q3 + q4 + q5) + 256 * ((q3 + q4 + q5 + q6) + 256 * (E4 + E5 + E6 + q7)))) := by clear a1 a2 f1; omega
  have a3 : (e + E1 + (E2 + E3)) / 4294967296 = E4 + E5 + E6 + q7 := by rw [f2]; exact quarter (by omega) (by omega) (by omega) (by omega)
  rw [a1, a2, a3]
  have f3 : e + E1 + (E2 + E3) + (E4 + E5 + E6 + q7) = (q0 + (q1 + (q2 + (q3 + (q4 + (q5 + (q6 + q7))))))) + 128 * (2 * (E1 + E2 + E3 + E4 + E5 + E6 + q7)) := by clear a1 a2 a3 f1 f2; omega
  rw [f3, Nat.add_mul_mod_self_left, Nat.mod_eq_of_lt (by clear a1 a2 a3 f1 f2 f3 hE1 hE2 hE3 hE4 hE5 hE6 he; omega)]

theorem pop_sum (x : Nat) : (dig8 x 8 + dig8 x 8 / 256 + (dig8 x 8 + dig8 x 8 / 256) / 65536 + (dig8 x 8 + dig8 x 8 / 256 + (dig8 x 8 + dig8 x 8 / 256) / 65536) / 4294967296) % 128 = pop x ∧ dig8 x 8 ≤ 1085102592571150095 := by
  rw [pop_all]
  exact fold_digits _ _ _ _ _ _ _ _ _ (pop8_le _) (pop8_le _) (pop8_le _) (pop8_le _) (pop8_le _) (pop8_le _) (pop8_le _) (pop8_le _) (dig8_all x)

theorem pop_le (x : Nat) : pop x ≤ 64 := cnt_le _ _

theorem cnt_or_and (p q : Nat → Bool) : ∀ n, cnt (fun i => p i || q i) n + cnt (fun i => p i && q i) n = cnt p n + cnt q n
  | 0 => rfl
  | n + 1 => by
    have h := cnt_or_and p q n
    simp only [cnt]
    have : (p n || q n).toNat + (p n && q n).toNat = (p n).toNat + (q n).toNat := by cases p n <;> cases q n <;> rfl
    omega

theorem cnt_mono {p q : Nat → Bool} : ∀ n, (∀ i, i < n → p i = true → q i = true) → cnt p n ≤ cnt q n
  | 0, _ => Nat.le_refl _
  | n + 1, h => by
    have h1 := cnt_mono n (fun i hi => h i (by omega))
    have h2 := h n (by omega)
    simp only [cnt]
    have : (p n).toNat ≤ (q n).toNat := by
      cases hp : p n
      · exact Nat.zero_le _
      · rw [h2 hp]; exact Nat.le_refl _
    omega

theorem cnt_pos {p : Nat → Bool} : ∀ n, 0 < cnt p n → ∃ i, i < n ∧ p i = true
  | 0, h => absurd h (Nat.lt_irrefl _)
  | n + 1, h => by
    by_cases hp : p n = true
    · exact ⟨n, by omega, hp⟩
    · simp only [cnt] at h
      have : (p n).toNat = 0 := by simp at hp; rw [hp]; rfl
      rw [this] at h
      obtain ⟨i, hi, hx⟩ := cnt_pos n h
      exact ⟨i, by omega, hx⟩

theorem pop_or_and (x y : Nat) : pop (x ||| y) + pop (x &&& y) = pop x + pop y := by
  unfold pop
  rw [← cnt_or_and (fun i => x.testBit i) (fun i => y.testBit i)]
  simp only [Nat.testBit_or, Nat.testBit_and]

theorem pop_and_le (x y : Nat) : pop (x &&& y) ≤ pop y := by
  unfold pop
  apply cnt_mono
  intro i _ h
  rw [Nat.testBit_and, Bool.and_eq_true] at h
  exact h.2

/-- Two sets that have most of a third one share a number of it. -/
theorem pop_share (x y u : Nat) (h1 : pop u < 2 * pop (x &&& u)) (h2 : pop u < 2 * pop (y &&& u)) : 0 < pop (x &&& y &&& u) := by
  have h := pop_or_and (x &&& u) (y &&& u)
  have h3 : pop (x &&& u ||| y &&& u) ≤ pop u := by
    rw [← Nat.and_or_distrib_right]
    exact pop_and_le _ _
  have h4 : x &&& u &&& (y &&& u) = x &&& y &&& u := by
    apply Nat.eq_of_testBit_eq
    intro i
    simp only [Nat.testBit_and]
    cases x.testBit i <;> cases y.testBit i <;> cases u.testBit i <;> rfl
  rw [h4] at h
  omega

theorem and127 (x : Nat) (h : x < 9223372036854775808) : bits .and .i64 (x : Int) 127 = ((x % 128 : Nat) : Int) := by
  show IntKind.i64.wrap ((BitVec.ofInt 64 (x : Int) &&& BitVec.ofInt 64 127).toNat : Int) = _
  rw [BitVec.toNat_and, ofInt_u64 x (by omega), show BitVec.toNat (BitVec.ofInt 64 127) = 2 ^ 7 - 1 from by decide, Nat.and_two_pow_sub_one_eq_mod]
  rw [IntKind.wrap_i64, show (2 : Nat) ^ 7 = 128 from rfl]
  omega

end Go.Proofs.Ytcnkpgbmegppbaa.M

namespace Go.Proofs.Ytcnkpgbmegppbaa.M
open Go.ChangeShapes Go.WideShapes Go.ChangeAt Go.RowKit

set_option maxRecDepth 20000 in
theorem ones_core (x a b c d e z : Nat) (w : World) (ha : a ≤ 6148914691236517205) (hb : b ≤ 6148914691236517205) (hc : c ≤ 3689348814741910323) (hd : d ≤ 3689348814741910323) (he : e ≤ 1085102592571150095) (h1 : bits .and .u64 ((x : Int) / 2) 6148914691236517205 = (a : Int)) (h2 : bits .and .u64 (x : Int) 6148914691236517205 = (b : Int)) (h3 : bits .and .u64 (((a : Int) + (b : Int)) / 4) 3689348814741910323 = (c : Int)) (h4 : bits .and .u64 ((a : Int) + (b : Int)) 3689348814741910323 = (d : Int)) (h5 : bits .and .u64 (((c : Int) + (d : Int)) / 16 + ((c : Int) + (d : Int))) 1085102592571150095 = (e : Int))
    (h6 : bits .and .i64 ((e : Int) + (e : Int) / 256 + ((e : Int) + (e : Int) / 256) / 65536 + ((e : Int) + (e : Int) / 256 + ((e : Int) + (e : Int) / 256) / 65536) / 4294967296) 127 = (z : Int)) :
    Calls Try.prog 52 #[.int .u64 x] w fun r w' => r = .returned (.int .i64 z) ∧ w' = w := by
  go_enter Try.func52, Try.ntmps52
  go_wp2
  go_ret
  exact ⟨rfl, rfl⟩

theorem ones_count (x : Nat) (w : World) (h : x < 18446744073709551616) :
    Calls Try.prog 52 #[.int .u64 x] w fun r w' => r = .returned (.int .i64 (pop x)) ∧ w' = w := by
  have m1 := mask1_eq
  have m2 := mask2_eq
  have m3 := mask3_eq
  have s1 := sum1 32 x
  have s2 := sum2 16 x
  have s3 := sum3 8 x
  obtain ⟨p1, p2⟩ := pop_sum x
  have e1 := u64_and_nat (x / 2) (mask1 32) (by omega) (by omega)
  have e2 := u64_and_nat x (mask1 32) h (by omega)
  have l1 : (x / 2) &&& mask1 32 ≤ mask1 32 := Nat.and_le_right
  have l2 : x &&& mask1 32 ≤ mask1 32 := Nat.and_le_right
  rw [show 2 * 16 = 32 from rfl, ← s1] at s2
  rw [show 2 * 8 = 16 from rfl, ← s2] at s3
  rw [m1] at e1 e2 l1 l2 s2 s3
  rw [m2] at s2 s3
  rw [m3] at s3
  generalize (x / 2) &&& 6148914691236517205 = a at e1 l1 s2 s3
  generalize x &&& 6148914691236517205 = b at e2 l2 s2 s3
  have e3 := u64_and_nat ((a + b) / 4) 3689348814741910323 (by omega) (by omega)
  have e4 := u64_and_nat (a + b) 3689348814741910323 (by omega) (by omega)
  have l3 : ((a + b) / 4) &&& 3689348814741910323 ≤ 3689348814741910323 := Nat.and_le_right
  have l4 : (a + b) &&& 3689348814741910323 ≤ 3689348814741910323 := Nat.and_le_right
  generalize ((a + b) / 4) &&& 3689348814741910323 = c at e3 l3 s3
  generalize (a + b) &&& 3689348814741910323 = d at e4 l4 s3
  have e5 := u64_and_nat ((c + d) / 16 + (c + d)) 1085102592571150095 (by omega) (by omega)
  rw [s3] at e5
  generalize dig8 x 8 = e at e5 p1 p2
  have e6 := and127 (e + e / 256 + (e + e / 256) / 65536 + (e + e / 256 + (e + e / 256) / 65536) / 4294967296) (by omega)
  rw [p1] at e6
  clear s1 s2 s3 m1 m2 m3 p1
  refine ones_core x a b c d e (pop x) w l1 l2 l3 l4 p2 ?_ ?_ ?_ ?_ ?_ ?_
  · rw [show (x : Int) / 2 = ((x / 2 : Nat) : Int) by omega]; exact e1
  · exact e2
  · rw [show ((a : Int) + (b : Int)) / 4 = (((a + b) / 4 : Nat) : Int) by omega]; exact e3
  · rw [show ((a : Int) + (b : Int)) = (((a + b) : Nat) : Int) by omega]; exact e4
  · rw [show ((c : Int) + (d : Int)) / 16 + ((c : Int) + (d : Int)) = (((c + d) / 16 + (c + d) : Nat) : Int) by omega]; exact e5
  · rw [← e6]
    congr 1

set_option maxRecDepth 20000 in
theorem len_any (x : Nat) (w : World) (h : x < 18446744073709551616) : Calls Try.prog 25 #[.int .u64 x] w fun e w' => e = .returned (.int .i64 (pop x)) ∧ w' = w := by
  have hc := ones_count x w h
  generalize pop x = z at hc ⊢
  go_enter Try.func25, Try.ntmps25
  go_wp2_with fail
  refine hc.mono ?_
  rintro e w1 ⟨rfl, hw⟩
  subst hw
  go_wp2_with fail
  go_ret
  exact ⟨rfl, rfl⟩

end Go.Proofs.Ytcnkpgbmegppbaa.M

namespace Go.Proofs.Ytcnkpgbmegppbaa.M
open Go.ChangeShapes Go.WideShapes Go.ChangeAt Go.RowKit

/-- The nodes of members. -/
def nds (ms : List Mb) : List Int := ms.map (·.n)

/-- Members that come of such nodes: whoever stays keeps the order, who is not fresh was there, and somebody stays. -/
def FolN (N : List Int) (c : List Mb) : Prop :=
  (∀ x y, [x, y].Sublist (nds c) → x ∈ N → y ∈ N → [x, y].Sublist N) ∧ (∀ m ∈ c, m.f = false → m.n ∈ N) ∧ ∃ x, x ∈ nds c ∧ x ∈ N

theorem FolN.sub {N : List Int} {c : List Mb} (h : (nds c).Sublist N) (hc : c ≠ []) : FolN N c := by
  refine ⟨fun x y h1 _ _ => h1.trans h, fun m hm _ => h.subset (List.mem_map_of_mem hm), ?_⟩
  match c, hc with
  | m :: l, _ => exact ⟨m.n, by simp [nds], h.subset (by simp [nds])⟩

theorem insM_nds (ms : List Mb) (k : Nat) (m : Mb) : nds (insM ms k m) = (nds ms).take k ++ m.n :: (nds ms).drop k := by
  unfold insM nds
  simp [List.map_take, List.map_drop]

theorem FolN.ins {ms : List Mb} (k : Nat) (m : Mb) (hm : m.f = true) (hn : ∀ a ∈ ms, a.n ≠ m.n) (h0 : ms ≠ []) : FolN (nds ms) (insM ms k m) := by
  have hni : m.n ∉ nds ms := fun h => by
    obtain ⟨a, ha, e⟩ := List.mem_map.1 h
    exact hn a ha e
  refine ⟨fun x y h1 hx hy => ?_, fun a ha hf => ?_, ?_⟩
  · rw [insM_nds] at h1
    have h2 := h1.filter (fun z => z != m.n)
    have hx' : (x != m.n) = true := by simp; exact fun e => hni (e ▸ hx)
    have hy' : (y != m.n) = true := by simp; exact fun e => hni (e ▸ hy)
    have ht : ((nds ms).take k ++ m.n :: (nds ms).drop k).filter (fun z => z != m.n) = nds ms := by
      rw [List.filter_append, List.filter_cons]
      simp only [bne_self_eq_false, Bool.false_eq_true, if_false]
      rw [← List.filter_append, List.take_append_drop]
      exact List.filter_eq_self.2 (fun a ha => by simp; exact fun e => hni (e ▸ ha))
    rw [ht] at h2
    rw [List.filter_cons, if_pos hx', List.filter_cons, if_pos hy'] at h2
    exact h2
  · unfold insM at ha
    rcases List.mem_append.1 ha with h | h
    · exact List.mem_map_of_mem (List.mem_of_mem_take h)
    · rcases List.mem_cons.1 h with h | h
      · rw [h, hm] at hf; cases hf
      · exact List.mem_map_of_mem (List.mem_of_mem_drop h)
  · match ms, h0 with
    | a :: l, _ =>
      refine ⟨a.n, ?_, by simp [nds]⟩
      rw [insM_nds]
      have : a.n ∈ (nds (a :: l)).take k ++ (nds (a :: l)).drop k := by rw [List.take_append_drop]; simp [nds]
      rcases List.mem_append.1 this with h | h
      · exact List.mem_append.2 (Or.inl h)
      · exact List.mem_append.2 (Or.inr (List.mem_cons_of_mem _ h))

theorem chk_ne {e : Int} {ms : List Mb} (h : chk e ms = true) : ms ≠ [] := by
  rintro rfl
  have := (chk_iff e []).1 h
  exact absurd this.2.2.1 (by decide)

theorem nds_flag (ms : List Mb) (i : Nat) (f : Bool) : nds (ms.set i { ms.getD i .z0 with f := f }) = nds ms := by
  unfold nds
  rw [List.map_set]
  apply List.ext_getElem?
  intro j
  rw [List.getElem?_set]
  split
  · next h =>
    subst h
    split
    · next h1 =>
      rw [List.length_map] at h1
      simp [List.getD_eq_getElem?_getD, h1]
    · next h1 =>
      rw [List.getElem?_eq_none (by omega)]
  · rfl

/-- What comes of a command. -/
theorem chR_steps {k nd st e e' : Int} {ms ms' : List Mb} (hc : chk e ms = true) (h : chR k nd st e ms = .ok (e', ms')) : (e' = e ∧ nds ms' = nds ms) ∨ (e' = e + 1 ∧ FolN (nds ms) ms') := by
  unfold chR at h
  split at h
  · have := cut_chk hc h; exact Or.inr ⟨this.1, FolN.sub (this.2.2.map _) (chk_ne this.2.1)⟩
  split at h
  · have := cut_chk hc h; exact Or.inr ⟨this.1, FolN.sub (this.2.2.map _) (chk_ne this.2.1)⟩
  split at h
  · obtain ⟨h1, h2, _, h4, h5⟩ := join_chk hc h
    rw [h5]
    exact Or.inr ⟨h1, FolN.ins _ _ rfl h4 (chk_ne hc)⟩
  split at h
  · obtain ⟨h1, h2, h3⟩ := again_chk hc h
    rw [h3]
    exact Or.inr ⟨h1, FolN.sub (List.Sublist.refl _) (chk_ne hc)⟩
  · obtain ⟨h1, h2, i, _, _, h5⟩ := ready_chk hc h
    rw [h5]
    exact Or.inl ⟨h1, nds_flag _ _ _⟩

/-- A ledger's past: its chains may be, their epochs are 1, 2, 3.., each comes of the one ahead, the last one has the nodes of now. -/
structure Past (s : PL) : Prop where
  chk : ∀ k, k < s.H.length → chk (s.H.getD k (0, [])).1 (s.H.getD k (0, [])).2 = true
  ep : ∀ k : Nat, k < s.H.length → (s.H.getD k (0, [])).1 = (k : Int) + 1
  fol : ∀ k, k + 1 < s.H.length → FolN (nds (s.H.getD k (0, [])).2) (s.H.getD (k + 1) (0, [])).2
  now : nds (s.H.getD (s.H.length - 1) (0, [])).2 = nds s.ms

theorem getDH_left {a b : List (Int × List Mb)} {k : Nat} (h : k < a.length) : (a ++ b).getD k (0, []) = a.getD k (0, []) := by
  rw [List.getD_eq_getElem?_getD, List.getD_eq_getElem?_getD, List.getElem?_append_left h]

theorem getDH_last {a : List (Int × List Mb)} {x : Int × List Mb} : (a ++ [x]).getD a.length (0, []) = x := by
  rw [List.getD_eq_getElem?_getD, List.getElem?_append_right (Nat.le_refl _), Nat.sub_self]
  rfl

theorem Past.same {s t : PL} (h : Past s) (hH : t.H = s.H) (hn : nds t.ms = nds s.ms) : Past t := by
  obtain ⟨h1, h2, h3, h4⟩ := h
  rw [← hH] at h1 h2 h3 h4
  exact ⟨h1, h2, h3, h4.trans hn.symm⟩

theorem Past.ch {s : PL} (hp : Past s) (ho : s.ok) (i : Int) (k nd st : Int) : Past (s.ch i (chR k nd st s.e s.ms)).2 := by
  match hc : chR k nd st s.e s.ms with
  | .error er => exact hp.same rfl rfl
  | .ok (e', ms') =>
    have hk := chR_chk ho.chk hc
    rcases chR_steps ho.chk hc with ⟨h1, h2⟩ | ⟨h1, h2⟩
    · refine hp.same ?_ h2
      show (if s.e < e' then s.H ++ [(e', ms')] else s.H) = s.H
      rw [if_neg (by omega)]
    · have hH : (s.ch i (.ok (e', ms'))).2.H = s.H ++ [(e', ms')] := by
        show (if s.e < e' then s.H ++ [(e', ms')] else s.H) = _
        rw [if_pos (by omega)]
      have hM : (s.ch i (.ok (e', ms'))).2.ms = ms' := rfl
      have hl := ho.len
      have hpos : 0 < s.H.length := by have := (chk_iff s.e s.ms).1 ho.chk; omega
      refine ⟨?_, ?_, ?_, ?_⟩
      · rw [hH]
        intro j hj
        rw [List.length_append, List.length_singleton] at hj
        rcases (show j < s.H.length ∨ j = s.H.length by omega) with h | rfl
        · rw [getDH_left h]; exact hp.chk j h
        · rw [getDH_last]; exact hk.1
      · rw [hH]
        intro j hj
        rw [List.length_append, List.length_singleton] at hj
        rcases (show j < s.H.length ∨ j = s.H.length by omega) with h | rfl
        · rw [getDH_left h]; exact hp.ep j h
        · rw [getDH_last]; show e' = _; omega
      · rw [hH]
        intro j hj
        rw [List.length_append, List.length_singleton] at hj
        rcases (show j + 1 < s.H.length ∨ j + 1 = s.H.length by omega) with h | h
        · rw [getDH_left h, getDH_left (by omega)]; exact hp.fol j h
        · rw [h, getDH_last, getDH_left (by omega)]
          have := hp.now
          rw [show s.H.length - 1 = j by omega] at this
          rw [this]
          exact h2
      · rw [hH, hM, List.length_append, List.length_singleton, Nat.add_sub_cancel, getDH_last]

theorem Past.app {s : PL} (hp : Past s) (ho : s.ok) (i : Int) (xs : List Int) : Past (s.app i xs).2 := by
  unfold PL.app
  split
  · split
    · exact hp.same rfl rfl
    · match getR xs with
      | none => exact hp.same rfl rfl
      | some (k, nd, st, ep) =>
        unfold PL.cmd
        dsimp only
        split
        · exact hp.ch ho i k nd st
        · exact hp.same rfl rfl
  · exact hp

theorem Past.play {s : PL} (hp : Past s) (ho : s.ok) (ls : List Dj) : ∀ k, Past (playJ s ls k)
  | 0 => hp
  | k + 1 => (Past.play hp ho ls k).app (playJ_ok ho ls k) _ _

theorem past_first {M : List Mb} (h : Hid (chk 1 M = true)) : Past (⟨1, M, 0, [(1, M)]⟩ : PL) := by
  refine ⟨fun k hk => ?_, fun k hk => ?_, fun k hk => ?_, rfl⟩
  · obtain rfl : k = 0 := by simp at hk; exact hk
    exact h.out
  · obtain rfl : k = 0 := by simp at hk; exact hk
    rfl
  · simp at hk

theorem ixM_shift (pr : Mb → Bool) : ∀ (l : List Mb) (k : Nat), ixM pr (k + 1) l = if ixM pr k l = -1 then -1 else ixM pr k l + 1
  | [], _ => rfl
  | m :: l, k => by
    unfold ixM
    by_cases h : pr m = true
    · rw [if_pos h, if_pos h, if_neg (by omega)]
      omega
    · rw [if_neg h, if_neg h]
      exact ixM_shift pr l (k + 1)

theorem ixM_ge (pr : Mb → Bool) : ∀ (l : List Mb) (k : Nat), ixM pr k l = -1 ∨ (k : Int) ≤ ixM pr k l
  | [], _ => Or.inl rfl
  | m :: l, k => by
    unfold ixM
    by_cases h : pr m = true
    · rw [if_pos h]; exact Or.inr (Int.le_refl _)
    · rw [if_neg h]
      rcases ixM_ge pr l (k + 1) with h1 | h1
      · exact Or.inl h1
      · exact Or.inr (by omega)

theorem ixM_mem (x : Int) : ∀ (l : List Mb) (k : Nat), 0 ≤ ixM (fun m => m.n == x) k l ↔ x ∈ nds l
  | [], k => by simp [ixM, nds]
  | m :: l, k => by
    unfold ixM
    by_cases h : m.n = x
    · rw [if_pos (by simp [h])]
      simp [nds, h]
    · rw [if_neg (by simp [h]), ixM_mem x l (k + 1)]
      simp [nds]
      omega

theorem ixM_lt (x y : Int) : ∀ (l : List Mb) (k : Nat), l.Pairwise (fun a b => a.n ≠ b.n) → [x, y].Sublist (nds l) → ixM (fun m => m.n == x) k l < ixM (fun m => m.n == y) k l
  | [], _, _, h => by simp [nds] at h
  | m :: l, k, hd, h => by
    have hd2 := List.pairwise_cons.1 hd
    have hne : ∀ z, z ∈ nds l → m.n ≠ z := fun z hz => by
      obtain ⟨a, ha, rfl⟩ := List.mem_map.1 hz
      exact hd2.1 a ha
    have h' : [x, y].Sublist (m.n :: nds l) := h
    rcases List.sublist_cons_iff.1 h' with h1 | ⟨r, e, h1⟩
    · have hx : x ∈ nds l := h1.subset (by simp)
      have hy : y ∈ nds l := h1.subset (by simp)
      have ih := ixM_lt x y l (k + 1) hd2.2 h1
      unfold ixM
      rw [if_neg (by simp; exact hne x hx), if_neg (by simp; exact hne y hy)]
      exact ih
    · injection e with e1 e2
      subst e1 e2
      have hy : y ∈ nds l := h1.subset (by simp)
      have h0 := (ixM_mem y l (k + 1)).2 hy
      unfold ixM
      rw [if_pos (by simp), if_neg (by simp; exact hne y hy)]
      rcases ixM_ge (fun m => m.n == y) l (k + 1) with h2 | h2
      · rw [h2] at h0; omega
      · omega

/-- What the law asks of two of one chain: whoever stays keeps the order. -/
theorem fol_order {e : Int} {l c : List Mb} (hl : chk e l = true) (hf : FolN (nds l) c) {i j : Nat} (hij : i < j) (hj : j < c.length) :
    ¬ (0 ≤ plc e l (c.getD i .z0).n ∧ 0 ≤ plc e l (c.getD j .z0).n ∧ plc e l (c.getD j .z0).n < plc e l (c.getD i .z0).n) := by
  rintro ⟨h1, h2, h3⟩
  unfold plc at h1 h2 h3
  rw [if_pos hl] at h1 h2 h3
  have hs : [(c.getD i .z0).n, (c.getD j .z0).n].Sublist (nds c) := by
    have e1 : c.getD i .z0 = c[i] := by rw [List.getD_eq_getElem?_getD, List.getElem?_eq_getElem (by omega)]; rfl
    have e2 : c.getD j .z0 = c[j] := by rw [List.getD_eq_getElem?_getD, List.getElem?_eq_getElem hj]; rfl
    rw [e1, e2]
    have h4 : [c[i], c[j]].Sublist c := by
      have h5 : c = c.take (i + 1) ++ c.drop (i + 1) := (List.take_append_drop _ _).symm
      have h6 : c[i] ∈ c.take (i + 1) := List.mem_take_iff_getElem.2 ⟨i, by omega, rfl⟩
      have h7 : c[j] ∈ c.drop (i + 1) := List.mem_drop_iff_getElem.2 ⟨j - (i + 1), by omega, by congr 1; omega⟩
      have h8 := (List.singleton_sublist.2 h6).append (List.singleton_sublist.2 h7)
      rw [← h5] at h8
      exact h8
    exact h4.map _
  have hgood := ((chk_iff e l).1 hl).2.2.2
  have hlt := ixM_lt _ _ l 0 (hgood.2.imp (fun h => h.1)) (hf.1 _ _ hs ((ixM_mem _ l 0).1 h1) ((ixM_mem _ l 0).1 h2))
  omega

/-- .. of one of a chain that is not fresh: it was there. -/
theorem fol_fresh {e : Int} {l c : List Mb} (hl : chk e l = true) (hf : FolN (nds l) c) {i : Nat} (hi : i < c.length) (h : (c.getD i .z0).f = false) : ¬ plc e l (c.getD i .z0).n < 0 := by
  have hm : c.getD i .z0 ∈ c := by
    rw [List.getD_eq_getElem?_getD, List.getElem?_eq_getElem hi]
    exact List.getElem_mem hi
  have h1 := (ixM_mem (c.getD i .z0).n l 0).2 (hf.2.1 _ hm h)
  unfold plc
  rw [if_pos hl]
  omega

theorem thN_nds : ∀ (a b : List Mb) (x : Nat), nds a = nds b → thN (fun _ => true) x a = thN (fun _ => true) x b
  | [], [], _, _ => rfl
  | [], _ :: _, _, h => by simp [nds] at h
  | _ :: _, [], _, h => by simp [nds] at h
  | m :: a, m' :: b, x, h => by
    simp only [nds, List.map_cons, List.cons.injEq] at h
    rw [thN_cons, thN_cons, h.1]
    exact thN_nds a b _ h.2

theorem thN_bit {e : Int} {l : List Mb} (hl : chk e l = true) {x : Int} (hx : x ∈ nds l) : (0 ≤ x ∧ x < 6) ∧ (thN (fun _ => true) 0 l).testBit x.toNat = true := by
  have hgood := ((chk_iff e l).1 hl).2.2.2
  obtain ⟨m, hm, rfl⟩ := List.mem_map.1 hx
  have h1 := hgood.1 m hm
  have h2 : 0 ≤ m.n ∧ m.n < 6 := by
    unfold isMb at h1
    simp at h1
    omega
  have h3 := hasN_thN m.n h2.1 h2.2 l 0 hgood.1
  rw [hasN_zero, Bool.false_or, List.any_eq_true.2 ⟨m, hm, by simp⟩] at h3
  unfold hasN at h3
  simp at h3
  exact ⟨h2, h3.2⟩

theorem cnt_some (p : Nat → Bool) : ∀ (n i : Nat), i < n → p i = true → 0 < cnt p n
  | 0, i, h, _ => by omega
  | n + 1, i, h, hp => by
    show 0 < cnt p n + (p n).toNat
    rcases (show i < n ∨ i = n by omega) with h1 | rfl
    · have := cnt_some p n i h1 hp
      omega
    · rw [hp]
      show 0 < cnt p i + 1
      omega

/-- .. of both: somebody stays. -/
theorem fol_share {e e' : Int} {l c : List Mb} (hl : chk e l = true) (hc : chk e' c = true) (hf : FolN (nds l) c) : 0 < pop (thN (fun _ => true) 0 c &&& thN (fun _ => true) 0 l) := by
  obtain ⟨x, h1, h2⟩ := hf.2.2
  obtain ⟨hx, b1⟩ := thN_bit hc h1
  obtain ⟨_, b2⟩ := thN_bit hl h2
  exact cnt_some _ 64 x.toNat (by omega) (by simp [Nat.testBit_and, b1, b2])

end Go.Proofs.Ytcnkpgbmegppbaa.M

namespace Go.Proofs.Ytcnkpgbmegppbaa.M
open Go.ChangeShapes Go.WideShapes Go.ChangeAt Go.RowKit

def HE.z0 : HE := ⟨0, none, 0, 0, []⟩

theorem At.put2 {t : TypeId} {w : World} {g B : Nat} {x y : Value} (h : At t w g #[x, y]) (hB : B ≤ g) (w0 : World) (hb : Below B w0 w) (a b : Value) :
    ∃ W, W = (w.setCell ⟨g, 0, none⟩ a).setCell ⟨g, 1, none⟩ b ∧ At t W g #[a, b] ∧ Below B w0 W := by
  refine ⟨_, rfl, ?_, ?_⟩
  · unfold At at *
    have h1 := heap_setCell_same w g 0 _ _ a h
    exact heap_setCell_same _ g 1 _ _ b h1
  · have e := Ex.setC (g := g) (w := w) [a, b] 0 w (Ex.refl _ _)
    exact hb.trans (e.below hB h.lt)

theorem chain_info : (Try.prog.info? 42).map (·.size) = some 2 := by kernel_rfl

theorem cellsH_at : ∀ (H : List HE) (k : Nat), k < H.length → (cellsH H)[k * 2]? = some (.int .i64 (H.getD k .z0).e) ∧ (cellsH H)[k * 2 + 1]? = some (.slice (H.getD k .z0).p (H.getD k .z0).n (H.getD k .z0).c)
  | [], k, h => by simp at h
  | x :: H, 0, _ => ⟨rfl, rfl⟩
  | x :: H, k + 1, h => by
    have ih := cellsH_at H k (by simpa using h)
    have e : cellsH (x :: H) = x.cs ++ cellsH H := by simp [cellsH]
    rw [e]
    constructor
    · rw [List.getElem?_append_right (by show 2 ≤ _; omega), show (k + 1) * 2 - x.cs.length = k * 2 by show (k + 1) * 2 - 2 = _; omega]
      exact ih.1
    · rw [List.getElem?_append_right (by show 2 ≤ _; omega), show (k + 1) * 2 + 1 - x.cs.length = k * 2 + 1 by show (k + 1) * 2 + 1 - 2 = _; omega]
      exact ih.2

set_option maxRecDepth 20000 in
set_option maxHeartbeats 2000000 in
theorem of_yes (r bc : Nat) (H : List HE) (k : Nat) (hk : k < H.length) (hl : H.length ≤ 1099511627776) (w : World) (ho : w.ownsRow 0 42 2 (.slice (some ⟨r, 0, none⟩) H.length bc) H.length (cellsH H)) :
    Calls Try.prog 43 #[.agg #[.slice (some ⟨r, 0, none⟩) H.length bc], .int .i64 ((k : Int) + 1)] w fun o w' => o = .returned (.tuple #[.agg #[.int .i64 (H.getD k .z0).e, .slice (H.getD k .z0).p (H.getD k .z0).n (H.getD k .z0).c], .bool true]) ∧ Below w.heap.size w w' := by
  have b0 := below_alloc w (.cells #[.slice (some ⟨r, 0, none⟩) H.length bc] 80)
  have b1 := below_alloc (w.alloc (.cells #[.slice (some ⟨r, 0, none⟩) H.length bc] 80)) (.cells #[.int .i64 0, .slice none 0 0] 42)
  have hB := b0.trans (b1.mono b0.size)
  have hA := (At.new 80 w #[.slice (some ⟨r, 0, none⟩) H.length bc]).below b1
  have hZ := At.moved (g2 := w.heap.size + 1) (by simp) (At.new 42 (w.alloc (.cells #[.slice (some ⟨r, 0, none⟩) H.length bc] 80)) #[.int .i64 0, .slice none 0 0])
  have hcl := World.ownsRow.cells ho rfl
  have hc := cellsH_at H k hk
  have x0 := hcl _ _ hc.1
  have x1 := hcl _ _ hc.2
  rw [Addr.add_lit, Nat.zero_add] at x0 x1
  replace x0 := cell_below hB x0
  replace x1 := cell_below hB x1
  have y0 := hA.one
  obtain ⟨z0, z1⟩ := hZ.two
  have f0 := hZ.free 0
  have f1 := hZ.free 1
  have hw : IntKind.i64.wrap ((k : Int) + 1 - 1) = (k : Int) := by rw [IntKind.wrap_i64]; omega
  have d1 : decide ((k : Int) + 1 < 1) = false := decide_eq_false (by omega)
  have d2 : decide ((H.length : Int) < (k : Int) + 1) = false := decide_eq_false (by omega)
  have hki : (k : Int) < (H.length : Int) := by omega
  clear hcl hc ho b0 b1 hA
  generalize H.getD k .z0 = y at *
  generalize H.length = N at *
  go_enter Try.func43, Try.ntmps43
  go_wp2_with fail
  have hY := At.moved (g2 := w.heap.size + 1) (by simp) (At.new 42 (w.alloc (.cells #[.slice (some ⟨r, 0, none⟩) N bc] 80)) #[.int .i64 y.e, .slice y.p y.n y.c])
  have b0 := below_alloc w (.cells #[.slice (some ⟨r, 0, none⟩) N bc] 80)
  have hbW := b0.trans ((below_alloc (w.alloc (.cells #[.slice (some ⟨r, 0, none⟩) N bc] 80)) (.cells #[.int .i64 y.e, .slice y.p y.n y.c] 42)).mono b0.size)
  exact bodyPost_ret (results_row_tmp (p := 4) (u := 5) rfl _ _ (w.heap.size + 1) _ _ _ rfl hY Try.underlying42 rfl chain_info) rfl ⟨rfl, hbW⟩

set_option maxRecDepth 20000 in
set_option maxHeartbeats 2000000 in
theorem of_no (r bc N : Nat) (i : Int) (hi : (N : Int) < i) (w : World) :
    Calls Try.prog 43 #[.agg #[.slice (some ⟨r, 0, none⟩) N bc], .int .i64 i] w fun o w' => o = .returned (.tuple #[.agg #[.int .i64 0, .slice none 0 0], .bool false]) ∧ Below w.heap.size w w' := by
  have b0 := below_alloc w (.cells #[.slice (some ⟨r, 0, none⟩) N bc] 80)
  have b1 := below_alloc (w.alloc (.cells #[.slice (some ⟨r, 0, none⟩) N bc] 80)) (.cells #[.int .i64 0, .slice none 0 0] 42)
  have hB := b0.trans (b1.mono b0.size)
  have hA := (At.new 80 w #[.slice (some ⟨r, 0, none⟩) N bc]).below b1
  have hZ := At.moved (g2 := w.heap.size + 1) (by simp) (At.new 42 (w.alloc (.cells #[.slice (some ⟨r, 0, none⟩) N bc] 80)) #[.int .i64 0, .slice none 0 0])
  have y0 := hA.one
  obtain ⟨z0, z1⟩ := hZ.two
  have f0 := hZ.free 0
  have f1 := hZ.free 1
  have d1 : decide (i < 1) = false := decide_eq_false (by omega)
  have d2 : decide ((N : Int) < i) = true := decide_eq_true hi
  clear b0 b1 hA hi
  go_enter Try.func43, Try.ntmps43
  go_wp2_with fail
  have hY := At.moved (g2 := w.heap.size + 1) (by simp) (At.new 42 (w.alloc (.cells #[.slice (some ⟨r, 0, none⟩) N bc] 80)) #[.int .i64 0, .slice none 0 0])
  have b0 := below_alloc w (.cells #[.slice (some ⟨r, 0, none⟩) N bc] 80)
  have hbW := b0.trans ((below_alloc (w.alloc (.cells #[.slice (some ⟨r, 0, none⟩) N bc] 80)) (.cells #[.int .i64 0, .slice none 0 0] 42)).mono b0.size)
  exact bodyPost_ret (results_row_tmp (p := 4) (u := 5) rfl _ _ (w.heap.size + 1) _ _ _ rfl hY Try.underlying42 rfl chain_info) rfl ⟨rfl, hbW⟩

/-- What Of answers. -/
def OfR (w w' : World) (e : Int) (ms : List Mb) (ok : Bool) (v : Value) : Prop := ∃ q d, v = .tuple #[.agg #[.int .i64 e, .slice q ms.length d], .bool ok] ∧ RdM w' q ms.length d ms ∧ (∀ a, q = some a → 0 < ms.length → w.heap.size ≤ a.block) ∧ Below w.heap.size w w'

set_option maxRecDepth 20000 in
set_option maxHeartbeats 2000000 in
theorem Of_yes (g r bc : Nat) (x : HE) (at_ : Int) (H : List HE) (w : World) (h : LB w g r bc x at_ H) (k : Nat) (hk : k < H.length) (hl : H.length ≤ 1099511627776) (hn : (H.getD k .z0).n ≤ 5864062014805) :
    Calls Try.prog 19 #[.pointer (some ⟨g, 0, none⟩), .int .i64 ((k : Int) + 1)] w fun o w' => ∃ v, o = .returned v ∧ OfR w w' (H.getD k .z0).e (H.getD k .z0).ms true v := by
  have hba := below_alloc w (.cells #[.int .i64 0, .slice none 0 0] 42)
  have hZ := At.new 42 w #[.int .i64 0, .slice none 0 0]
  have hL := h.below hba
  have hm := made_yes g r bc x at_ H _ hL
  have ho := of_yes r bc H k hk hl _ hL.row
  have hmem : H.getD k .z0 ∈ H := by
    rw [List.getD_eq_getElem?_getD, List.getElem?_eq_getElem hk]
    exact List.getElem_mem hk
  have hrd := (hL.old _ hmem).1
  obtain ⟨q0, q1, q2, q3⟩ := hL.blk.four
  obtain ⟨e, p, n, c, ms, hye⟩ : ∃ e p n c ms, H.getD k .z0 = ⟨e, p, n, c, ms⟩ := ⟨_, _, _, _, _, rfl⟩
  rw [hye] at ho hrd hn ⊢
  have hnl := hrd.len
  dsimp only at ho hrd hn hnl ⊢
  obtain rfl : n = ms.length := hnl.symm
  have HRd : Hid (RdM (w.alloc (.cells #[.int .i64 0, .slice none 0 0] 42)) p ms.length c ms) := hrd
  clear h hL hmem hye hrd hnl
  generalize H.length = N at *
  generalize hLN : ms.length = LN at *
  have HLN : Hid (ms.length = LN) := hLN
  clear hLN
  go_enter Try.func19, Try.ntmps19
  go_wp2_with fail
  refine hm.mono ?_
  rintro o w1 ⟨rfl, hw⟩
  subst hw
  go_wp2_with fail
  refine ho.mono ?_
  rintro o w2 ⟨rfl, hb2⟩
  have hb2a := below_alloc w2 (.cells #[.int .i64 e, .slice p LN c] 42)
  have hC2 := At.new 42 w2 #[.int .i64 e, .slice p LN c]
  have hrd2 := (HRd.out.below hb2).below hb2a
  have hZ2 := (hZ.below hb2).below hb2a
  have HB2 := hba.trans (hb2.mono hba.size)
  have HB3 := HB2.trans (hb2a.mono HB2.size)
  have hcp := copied_any e p LN c ms _ hrd2 hn
  obtain ⟨c0, c1⟩ := hC2.two
  clear hm ho hb2 hb2a hZ hrd2 HB2 q0 q1 q2 q3
  go_wp2_with fail
  generalize (w2.alloc (.cells #[.int .i64 e, .slice p LN c] 42)) = w3 at *
  refine hcp.mono ?_
  rintro o w4 ⟨q, d, rfl, hq, hr4, hb4⟩
  have hZ4 := hZ2.below hb4
  have HB4 := HB3.trans (hb4.mono HB3.size)
  obtain ⟨z0, z1⟩ := hZ4.two
  have f0 := hZ4.free 0
  have f1 := hZ4.free 1
  have hq4 : ∀ a, q = some a → 0 < LN → w.heap.size < a.block := fun a ha h0 => by have := hq a ha h0; have := hZ2.lt; omega
  clear hcp hq c0 c1 hC2
  go_wp2_with fail
  obtain ⟨Wf, hWf, hY, hbW⟩ := hZ4.put2 (B := w.heap.size) (Nat.le_refl _) w HB4 (.int .i64 e) (.slice q LN d)
  rw [← hWf]
  exact bodyPost_ret (results_row_tmp (p := 4) (u := 5) rfl _ _ w.heap.size _ _ _ rfl hY Try.underlying42 rfl chain_info) rfl ⟨_, rfl, q, d, by rw [HLN.out]; rfl, by rw [hWf, HLN.out]; exact hr4.put _ _ (fun a ha h0 => by have := hq4 a ha h0; omega), fun a ha h0 => by rw [HLN.out] at h0; exact Nat.le_of_lt (hq4 a ha h0), hbW⟩

set_option maxRecDepth 20000 in
set_option maxHeartbeats 2000000 in
theorem Of_no (g r bc : Nat) (x : HE) (at_ : Int) (H : List HE) (w : World) (h : LB w g r bc x at_ H) (i : Int) (hi : (H.length : Int) < i) :
    Calls Try.prog 19 #[.pointer (some ⟨g, 0, none⟩), .int .i64 i] w fun o w' => ∃ v, o = .returned v ∧ OfR w w' 0 [] false v := by
  have hba := below_alloc w (.cells #[.int .i64 0, .slice none 0 0] 42)
  have hZ := At.new 42 w #[.int .i64 0, .slice none 0 0]
  have hL := h.below hba
  have hm := made_yes g r bc x at_ H _ hL
  have ho := of_no r bc H.length i hi (w.alloc (.cells #[.int .i64 0, .slice none 0 0] 42))
  obtain ⟨q0, q1, q2, q3⟩ := hL.blk.four
  clear h hL hi
  generalize H.length = N at *
  go_enter Try.func19, Try.ntmps19
  go_wp2_with fail
  refine hm.mono ?_
  rintro o w1 ⟨rfl, hw⟩
  subst hw
  go_wp2_with fail
  refine ho.mono ?_
  rintro o w2 ⟨rfl, hb2⟩
  have hb2a := below_alloc w2 (.cells #[.int .i64 0, .slice none 0 0] 42)
  have hC2 := At.new 42 w2 #[.int .i64 0, .slice none 0 0]
  have hZ2 := (hZ.below hb2).below hb2a
  have HB2 := hba.trans (hb2.mono hba.size)
  have HB3 := HB2.trans (hb2a.mono HB2.size)
  have hcp := copied_any 0 none 0 0 [] (w2.alloc (.cells #[.int .i64 0, .slice none 0 0] 42)) ⟨rfl, Nat.le_refl _, fun _ => rfl, fun h => absurd h (Nat.lt_irrefl _)⟩ (by omega)
  obtain ⟨c0, c1⟩ := hC2.two
  clear hm ho hb2 hb2a hZ HB2 q0 q1 q2 q3
  go_wp2_with fail
  generalize (w2.alloc (.cells #[.int .i64 0, .slice none 0 0] 42)) = w3 at *
  refine hcp.mono ?_
  rintro o w4 ⟨q, d, rfl, hq, hr4, hb4⟩
  have hZ4 := hZ2.below hb4
  have HB4 := HB3.trans (hb4.mono HB3.size)
  obtain ⟨z0, z1⟩ := hZ4.two
  have f0 := hZ4.free 0
  have f1 := hZ4.free 1
  clear hcp hq c0 c1 hC2
  go_wp2_with fail
  obtain ⟨Wf, hWf, hY, hbW⟩ := hZ4.put2 (B := w.heap.size) (Nat.le_refl _) w HB4 (.int .i64 0) (.slice q 0 d)
  rw [← hWf]
  exact bodyPost_ret (results_row_tmp (p := 4) (u := 5) rfl _ _ w.heap.size _ _ _ rfl hY Try.underlying42 rfl chain_info) rfl ⟨_, rfl, q, d, rfl, by rw [hWf]; exact hr4.put _ _ (fun a ha h0 => absurd h0 (Nat.lt_irrefl _)), fun a ha h0 => absurd h0 (Nat.lt_irrefl _), hbW⟩

end Go.Proofs.Ytcnkpgbmegppbaa.M

namespace Go.Proofs.Ytcnkpgbmegppbaa.M
open Go.ChangeShapes Go.WideShapes Go.ChangeAt Go.RowKit

/-- A ledger in block gt, row rt, that changes of blocks g and r leave alone. -/
def Tw (w : World) (g r gt rt : Nat) (s : PL) : Prop := ∃ bc x H, LB w gt rt bc x s.at_ H ∧ x.ch = (s.e, s.ms) ∧ H.map HE.ch = s.H ∧ (gt ≠ g ∧ gt ≠ r) ∧ (rt ≠ g ∧ rt ≠ r) ∧ ∀ y ∈ x :: H, ∀ a, y.p = some a → 0 < y.n → a.block ≠ g ∧ a.block ≠ r

theorem Tw.lp {w : World} {g r gt rt : Nat} {s : PL} (h : Tw w g r gt rt s) : LP w gt rt s := by
  obtain ⟨bc, x, H, h1, h2, h3, _⟩ := h
  exact ⟨bc, x, H, h1, h2, h3⟩

theorem Tw.below {w w' : World} {g r gt rt : Nat} {s : PL} (h : Tw w g r gt rt s) (hb : Below w.heap.size w w') : Tw w' g r gt rt s := by
  obtain ⟨bc, x, H, h1, h2⟩ := h
  exact ⟨bc, x, H, h1.below hb, h2⟩

theorem Tw.ex2 {w w' : World} {g r r' gt rt : Nat} {s : PL} (h : Tw w g r gt rt s) (he : Ex2 g r w w') (hr : r' = r ∨ w.heap.size ≤ r') : Tw w' g r' gt rt s := by
  obtain ⟨bc, x, H, h1, h2, h3, h4, h5, h6⟩ := h
  have hg := h1.blk.lt
  have hrl := h1.lr
  refine ⟨bc, x, H, h1.kept he h4 h5 h6, h2, h3, ⟨h4.1, fun e => ?_⟩, ⟨h5.1, fun e => ?_⟩, fun y hy a ha h0 => ⟨(h6 y hy a ha h0).1, fun e => ?_⟩⟩
  · rcases hr with e1 | e1
    · exact h4.2 (e.trans e1)
    · omega
  · rcases hr with e1 | e1
    · exact h5.2 (e.trans e1)
    · omega
  · rcases hr with e1 | e1
    · exact (h6 y hy a ha h0).2 (e.trans e1)
    · have hrd : y.rd w gt rt := by
        rcases List.mem_cons.1 hy with rfl | hy
        · exact h1.now
        · exact h1.old y hy
      have := rd_lt hrd.1 ha h0
      omega

end Go.Proofs.Ytcnkpgbmegppbaa.M

namespace Go.Proofs.Ytcnkpgbmegppbaa.M
open Go.ChangeShapes Go.WideShapes Go.ChangeAt Go.RowKit

theorem RdM.back3 {w : World} {b o n c k : Nat} {ms : List Mb} (h : RdM w (some ⟨b, o, none⟩) n c ms) (h0 : 0 < n) (hk : k ≤ n) : RdM w (some ⟨b, o + k * 3, none⟩) (n - k) (c - k) (ms.drop k) := by
  obtain ⟨b', o', e', hc⟩ := h.cells h0
  cases e'
  have hl := h.len
  have hcp := h.cap
  refine ⟨by rw [List.length_drop, hl], by omega, (fun h => by cases h), fun hn => ⟨b, o + k * 3, rfl, fun i hi => ?_⟩⟩
  have h1 := hc (k + i) (by omega)
  have e : (ms.drop k).getD i .z0 = ms.getD (k + i) .z0 := by rw [List.getD_eq_getElem?_getD, List.getD_eq_getElem?_getD, List.getElem?_drop]
  rw [e, show o + k * 3 + i * 3 = o + (k + i) * 3 by omega]
  exact h1

theorem RdJJ.alone {w : World} {b : Nat} {p : Option Addr} {n c : Nat} {ls : List Dj} (h0 : w.cell? ⟨b, 0, none⟩ = some (.slice p n c)) (r0 : RdJ w p n c ls) : RdJJ w (some ⟨b, 0, none⟩) 1 [ls] :=
  ⟨rfl, fun _ => ⟨b, 0, rfl, fun j hj => by
    obtain rfl : j = 0 := by omega
    exact ⟨p, n, c, h0, r0⟩⟩⟩

theorem getDH_map (H : List HE) (k : Nat) : (H.map HE.ch).getD k (0, []) = (H.getD k .z0).ch := by
  rw [List.getD_eq_getElem?_getD, List.getD_eq_getElem?_getD, List.getElem?_map]
  cases H[k]? <;> rfl

theorem OfL_yes (g r : Nat) (s : PL) (w : World) (h : LP w g r s) (k : Nat) (hk : k < s.H.length) (hl : s.H.length ≤ 1099511627776) (h6 : (s.H.getD k (0, [])).2.length ≤ 6) (i : Int) (hi : i = (k : Int) + 1) (e : Int) (he : (s.H.getD k (0, [])).1 = e) :
    Calls Try.prog 19 #[.pointer (some ⟨g, 0, none⟩), .int .i64 i] w fun o w' => ∃ v, o = .returned v ∧ OfR w w' e (s.H.getD k (0, [])).2 true v := by
  obtain ⟨bc, x, H, h1, h2, h3⟩ := h
  have hlen : H.length = s.H.length := by rw [← h3, List.length_map]
  have e1 : s.H.getD k (0, []) = (H.getD k .z0).ch := by rw [← h3]; exact getDH_map H k
  have hmem : H.getD k .z0 ∈ H := by
    rw [List.getD_eq_getElem?_getD, List.getElem?_eq_getElem (by omega)]
    exact List.getElem_mem (by omega)
  have hnl := (h1.old _ hmem).1.len
  have hn : (H.getD k .z0).n ≤ 5864062014805 := by
    rw [← hnl]
    rw [e1] at h6
    have : (H.getD k .z0).ms.length ≤ 6 := h6
    omega
  rw [hi, ← he, e1]
  exact Of_yes g r bc x s.at_ H w h1 k (by omega) (by omega) hn

theorem OfL_no (g r : Nat) (s : PL) (w : World) (h : LP w g r s) (i : Int) (hi : (s.H.length : Int) < i) :
    Calls Try.prog 19 #[.pointer (some ⟨g, 0, none⟩), .int .i64 i] w fun o w' => ∃ v, o = .returned v ∧ OfR w w' 0 [] false v := by
  obtain ⟨bc, x, H, h1, h2, h3⟩ := h
  have hlen : H.length = s.H.length := by rw [← h3, List.length_map]
  exact Of_no g r bc x s.at_ H w h1 i (by omega)

theorem andE_any (x y : Nat) (w : World) (hx : x < 18446744073709551616) (hy : y < 18446744073709551616) : Calls Try.prog 24 #[.int .u64 x, .int .u64 y] w fun e w' => e = .returned (.int .u64 ((x &&& y : Nat) : Int)) ∧ Below w.heap.size w w' := by
  have hb := u64_and_nat x y hx hy
  go_enter Try.func24, Try.ntmps24
  go_wp2
  go_ret
  exact ⟨by first | rfl | rw [hb], Below.refl _ _⟩

/-- New memory is apart from a ledger. -/
theorem LP.tw_new {w : World} {g r x : Nat} {s : PL} (h : LP w g r s) (hx : w.heap.size ≤ x) : Tw w x x g r s := by
  obtain ⟨bc, y, H, h1, h2, h3⟩ := h
  have hg := h1.blk.lt
  have hr := h1.lr
  refine ⟨bc, y, H, h1, h2, h3, ⟨by omega, by omega⟩, ⟨by omega, by omega⟩, fun z hz a ha h0 => ?_⟩
  have hrd : z.rd w g r := by
    rcases List.mem_cons.1 hz with rfl | hz
    · exact h1.now
    · exact h1.old z hz
  have := rd_lt hrd.1 ha h0
  exact ⟨by omega, by omega⟩

theorem lenE_any (x : Nat) (w : World) (h : x < 18446744073709551616) : Calls Try.prog 25 #[.int .u64 x] w fun e w' => e = .returned (.int .i64 (pop x)) ∧ Below w.heap.size w w' := by
  refine (len_any x w h).mono ?_
  rintro e w' ⟨rfl, rfl⟩
  exact ⟨rfl, Below.refl _ _⟩

/-- What the law's loop over epochs keeps. -/
def Ep (w : World) (B g r g8 : Nat) (s : PL) (k : Nat) (wr : World) : Prop := ∃ ql dl, Tw wr g8 g8 g r s ∧ At 42 wr g8 #[.int .i64 ((k : Int) + 1), .slice ql (s.H.getD k (0, [])).2.length dl] ∧ RdM wr ql (s.H.getD k (0, [])).2.length dl (s.H.getD k (0, [])).2 ∧ (∀ a, ql = some a → 0 < (s.H.getD k (0, [])).2.length → a.block ≠ g8) ∧ Below B w wr

set_option linter.unusedSimpArgs false in
set_option maxRecDepth 20000 in
set_option maxHeartbeats 8000000 in
theorem walk_LedgerEpochs (w : World) (p : Option Addr) (n c : Nat) (ms : List Mb) (hm : RdM w p n c ms) (q : Option Addr) (m d : Nat) (ls : List Dj) (h : RdJ w q m d ls) :
    Calls Try.prog 4 #[.slice p n c, .slice q m d] w fun r w' => r = .returned (.bool true) ∧ Below w.heap.size w w' := by
  have hW := fun W => awake_any W
  by_cases hnm : 60 < n
  · have hni : (60 : Int) < (n : Int) := by omega
    have HB := Below.refl w.heap.size w
    clear hm h
    go_enter Try.func4, Try.ntmps4
    go_wp2_with fail
    refine (hW _).mono ?_
    rintro o wz ⟨rfl, hbz⟩
    go_wp2_with fail
    go_ret
    exact ⟨rfl, HB.trans (hbz.mono HB.size)⟩
  have hni : ¬ (60 : Int) < (n : Int) := by omega
  have hdn : decide ((60 : Int) < (n : Int)) = false := decide_eq_false hni
  have h1b := below_alloc w (.cells #[.slice q m d] 35)
  have hA1 := At.new 35 w #[.slice q m d]
  have hl1 := h.below h1b
  have hm1 := hm.below h1b
  have hJJ : RdJJ (w.alloc (.cells #[.slice q m d] 35)) (some ⟨w.heap.size, 0, none⟩) 1 [ls] := RdJJ.alone (hA1.cell 0) hl1
  have gS := short_any (w.alloc (.cells #[.slice q m d] 35)) (some ⟨w.heap.size, 0, none⟩) 1 1 [ls] hJJ (by decide)
  obtain ⟨R, HF, hR⟩ := first_is n ms hm.len (by omega)
  clear hm h hA1 hJJ
  go_enter Try.func4, Try.ntmps4
  go_wp2_with fail
  refine gS.mono ?_
  rintro o w3 ⟨⟨bb, rfl, hbb⟩, hb3⟩
  have HB := h1b.trans (hb3.mono h1b.size)
  have hl3 := hl1.below hb3
  have hm3 := hm1.below hb3
  clear gS hb3 hl1 hm1 h1b
  cases bb with
  | false =>
    go_wp2_with fail
    refine (hW _).mono ?_
    rintro o wz ⟨rfl, hbz⟩
    go_wp2_with fail
    go_ret
    exact ⟨rfl, HB.trans (hbz.mono HB.size)⟩
  | true =>
    have hsh := hbb rfl
    have hs1 := short_of hsh (j := 0) (by simp)
    have hll : m ≤ 150 := by rw [← hl3.len]; exact hs1.1
    have hsm : Small ls := hs1.2
    clear hbb hsh hs1
    rcases hR with rfl | ⟨M, rfl, hk, hMl⟩
    · have g1 := New_bad p n c ms w3 hm3 HF
      go_wp2_with fail
      refine g1.mono ?_
      rintro o w4 ⟨rfl, hb4⟩
      replace HB := HB.trans (hb4.mono HB.size)
      clear g1
      go_wp2_with fail
      refine (hW _).mono ?_
      rintro o wz ⟨rfl, hbz⟩
      go_wp2_with fail
      go_ret
      exact ⟨rfl, HB.trans (hbz.mono HB.size)⟩
    clear hMl
    have g1 := New_ok p n c ms w3 hm3 M HF
    have HFi : Hid (FirstIs n ms (.ok (1, M))) := HF
    clear HF
    go_wp2_with fail
    refine g1.mono ?_
    rintro o w4 ⟨v, rfl, g0, r0, rfl, _, _, _, hb4⟩
    have HB4 := HB.trans (hb4.mono HB.size)
    have g2 := made_law p n c ms w4 (hm3.below hb4) M HFi.out hk q m d ls (hl3.below hb4) hll hsm
    clear g1 hb4 hl3 hm3 HB
    go_wp2_with fail
    refine g2.mono ?_
    rintro o w5 ⟨v, rfl, g, r, rfl, hL5, hg, hr, hb5⟩
    have HB5 := HB4.trans (hb5.mono HB4.size)
    have HSok : Hid (playJ ⟨1, M, 0, [(1, M)]⟩ ls m).ok := playJ_ok (PL.first_ok hk) ls m
    have HPast : Hid (Past (playJ ⟨1, M, 0, [(1, M)]⟩ ls m)) := Past.play (past_first hk) (PL.first_ok hk) ls m
    clear g2 hb5 HB4 hg hr hk
    generalize playJ ⟨1, M, 0, [(1, M)]⟩ ls m = s at *
    have hsl := HSok.out.len
    have hse := chk_parts HSok.out.chk
    have hlen : s.H.length ≤ 1099511627776 := by omega
    have hpos : 0 < s.H.length := by omega
    have H6 : Hid (∀ k, k < s.H.length → (s.H.getD k (0, [])).2.length ≤ 6) := fun k hk => (chk_parts (HPast.out.chk k hk)).2.2.2
    have g3 := OfL_yes g r s w5 hL5 0 hpos hlen (H6.out 0 hpos) 1 (by omega) _ (HPast.out.ep 0 hpos)
    rw [show ((0 : Nat) : Int) + 1 = 1 from rfl] at g3
    go_wp2_with fail
    refine g3.mono ?_
    rintro o w6 ⟨v, rfl, q6, d6, rfl, hr6, hq6, hb6⟩
    obtain ⟨L0, HL0⟩ : ∃ z, Hid ((s.H.getD 0 (0, [])).2.length = z) := ⟨_, rfl⟩
    rw [HL0.out]
    have hb6a := below_alloc w6 (.cells #[.int .i64 1, .slice q6 L0 d6] 42)
    have HB6 := (HB5.trans (hb6.mono HB5.size))
    have HB7 := HB6.trans (hb6a.mono HB6.size)
    have hA7 := At.new 42 w6 #[.int .i64 1, .slice q6 L0 d6]
    have hE0 : Ep w w.heap.size g r w6.heap.size s 0 (w6.alloc (.cells #[.int .i64 1, .slice q6 L0 d6] 42)) := ⟨q6, d6, ((hL5.below hb6).tw_new (Nat.le_refl _)).below hb6a, by rw [HL0.out]; exact hA7, hr6.below hb6a, fun a ha h0 => Nat.ne_of_lt (rd_lt hr6 ha h0), HB7⟩
    have hg8 : w.heap.size ≤ w6.heap.size := HB6.size
    clear g3 hL5 hr6 hq6 hb6 hb6a HB6 HB7 hA7 HB5
    go_wp2_with fail
    generalize (w6.alloc (.cells #[.int .i64 1, .slice q6 L0 d6] 42)) = w7 at *
    generalize w6.heap.size = g8 at *
    obtain ⟨B, hB⟩ : ∃ B, w.heap.size = B := ⟨_, rfl⟩
    have HBB : Hid (w.heap.size = B) := hB
    rw [hB] at hE0 hg8
    clear hB
    go_loopw [10] (fun i wr => ∃ (k : Nat), k + 1 ≤ s.H.length ∧ i = .int .i64 ((k : Int) + 2) ∧ Ep w B g r g8 s k wr) (fun i _ => s.H.length + 2 - (intOf i).toNat)
    case atStart => exact ⟨0, by omega, rfl, hE0⟩
    case round =>
      clear hE0
      obtain ⟨k, hk1l, rfl, ql, dl, hT, hA8, hrl, hqf, hb⟩ := hrel
      have hL := hT.lp
      have hl6 := hse.2.2.2
      have hgB : B ≤ wr.heap.size := by rw [← HBB.out]; exact (show Below w.heap.size w wr by rw [HBB.out]; exact hb).size
      have cCh := Chain_any g r s wr hL hl6
      have hfe := field_e
      have hk1 := HPast.out.chk k (by omega)
      rw [HPast.out.ep k (by omega)] at hk1
      by_cases hmore : k + 1 < s.H.length
      · have hd2 : decide ((k : Int) + 2 ≤ s.e) = true := decide_eq_true (by omega)
        have HFol : Hid (FolN (nds (s.H.getD k (0, [])).2) (s.H.getD (k + 1) (0, [])).2) := HPast.out.fol k hmore
        have hk2 := HPast.out.chk (k + 1) hmore
        rw [HPast.out.ep (k + 1) hmore, show (((k + 1 : Nat) : Int) + 1) = (k : Int) + 2 by omega] at hk2
        have hOf := fun W hW => OfL_yes g r s W hW (k + 1) hmore hlen (H6.out _ hmore) ((k : Int) + 2) (by omega) ((k : Int) + 2) (by rw [HPast.out.ep (k + 1) hmore]; omega)
        have h61 := H6.out k (by omega)
        have h62 := H6.out (k + 1) hmore
        clear hfe
        have hfe := field_e
        go_wp2_with fail
        refine cCh.mono ?_
        rintro o w1 ⟨v, rfl, qx, dx, rfl, _, _, hb1⟩
        go_wp2_with fail
        refine (hOf w1 (hL.below hb1)).mono ?_
        rintro o w2 ⟨v, rfl, qc, dc, rfl, hrc2, hqc, hb2⟩
        obtain ⟨ms1, Hms1⟩ : ∃ z, Hid ((s.H.getD k (0, [])).2 = z) := ⟨_, rfl⟩
        obtain ⟨ms2, Hms2⟩ : ∃ z, Hid ((s.H.getD (k + 1) (0, [])).2 = z) := ⟨_, rfl⟩
        rw [Hms1.out] at hA8 hrl hqf HFol hk1 h61
        rw [Hms2.out] at hrc2 hqc HFol hk2 h62 ⊢
        obtain ⟨e1, He1⟩ : ∃ z, Hid ((k : Int) + 1 = z) := ⟨_, rfl⟩
        rw [He1.out] at hA8 hk1
        obtain ⟨nc, Hnc⟩ : ∃ z, Hid (ms2.length = z) := ⟨_, rfl⟩
        rw [Hnc.out] at hrc2 hqc ⊢
        have hncl : ms2.length = nc := Hnc.out
        have hb2a := below_alloc w2 (.cells #[.int .i64 ((k : Int) + 2), .slice qc nc dc] 42)
        have hb12 := hb1.trans (hb2.mono hb1.size)
        have hb12a := hb12.trans (hb2a.mono hb12.size)
        have hL3 := hT.below hb12a
        have hA83 := hA8.below hb12a
        have hrl3 := hrl.below hb12a
        have hrc3 := hrc2.below hb2a
        have hC1 := At.new 42 w2 #[.int .i64 ((k : Int) + 2), .slice qc nc dc]
        have hB3 := hb.trans (hb12a.mono hgB)
        have hqf3 : ∀ a, qc = some a → 0 < nc → a.block ≠ g8 := fun a ha h0 => by have h1 := hqc a ha h0; have h2 := hA8.lt; have h3 := hb1.size; omega
        have cCk := Check_any ((k : Int) + 2) qc nc dc ms2 _ hrc3 (by omega)
        rw [hk2] at cCk
        unfold chkV at cCk
        simp only [if_true] at cCk
        obtain ⟨c0, c1⟩ := hC1.two
        have hee : (((k : Int) + 2) != ((k : Int) + 2)) = false := by simp
        have hg83 : B ≤ w2.heap.size := Nat.le_trans hgB hb12.size
        clear cCh hOf hb1 hb2 hb12 hb12a hL hT hA8 hrl hqf hrc2 hqc hb hb2a hncl
        go_wp2_with fail
        generalize (w2.alloc (.cells #[.int .i64 ((k : Int) + 2), .slice qc nc dc] 42)) = w3 at *
        generalize w2.heap.size = gc1 at *
        refine cCk.mono ?_
        rintro o wm ⟨rfl, hbm0⟩
        have hLm := hL3.below hbm0
        have hA8m := hA83.below hbm0
        have hrlm := hrl3.below hbm0
        have hrc := hrc3.below hbm0
        have hCm := hC1.below hbm0
        have hBm := hB3.trans (hbm0.mono (Nat.le_trans hg83 (Nat.le_of_lt hC1.lt)))
        have hBms : B ≤ wm.heap.size := Nat.le_trans (Nat.le_trans hg83 (Nat.le_of_lt hC1.lt)) hbm0.size
        clear cCk c0 c1 hL3 hA83 hrl3 hrc3 hC1 hB3 hbm0
        have hC1 := hCm
        obtain ⟨c0, c1⟩ := hC1.two
        go_wp2_with fail
        have hncl : ms2.length = nc := Hnc.out
        clear c0 c1
        go_loopw [76] (fun ix wr => ∃ (i : Nat), i ≤ nc ∧ ix = .int .i64 i ∧ Below wm.heap.size wm wr) (fun ix _ => nc - (intOf ix).toNat)
        case atStart => exact ⟨0, Nat.zero_le _, rfl, Below.refl _ _⟩
        case round =>
          obtain ⟨i, hi, rfl, hbm⟩ := hrel
          by_cases hin : i < nc
          · skip
            have hlt : (i : Int) < (nc : Int) := by omega
            obtain ⟨b, o, rfl, hcc⟩ := (hrc.below hbm).cells (by omega)
            obtain ⟨x1, x2, x3⟩ := hcc i hin
            have HF1 : Hid ((ms2.getD i .z0).f = false → ¬ plc e1 ms1 (ms2.getD i .z0).n < 0) := fun h => fol_fresh hk1 HFol.out (by omega) h
            have HF2 : Hid (∀ j, i < j → j < ms2.length → ¬ (0 ≤ plc e1 ms1 (ms2.getD i .z0).n ∧ 0 ≤ plc e1 ms1 (ms2.getD j .z0).n ∧ plc e1 ms1 (ms2.getD j .z0).n < plc e1 ms1 (ms2.getD i .z0).n)) := fun j h1 h2 => fol_order hk1 HFol.out h1 h2
            obtain ⟨xn, Hxn⟩ : ∃ z, Hid ((ms2.getD i .z0).n = z) := ⟨_, rfl⟩
            obtain ⟨xs, Hxs⟩ : ∃ z, Hid ((ms2.getD i .z0).s = z) := ⟨_, rfl⟩
            obtain ⟨xf, Hxf⟩ : ∃ z, Hid ((ms2.getD i .z0).f = z) := ⟨_, rfl⟩
            rw [Hxn.out] at x1 HF1 HF2
            rw [Hxs.out] at x2
            rw [Hxf.out] at x3 HF1
            have hbx := below_alloc wr (.cells #[.int .i64 xn, .int .i64 xs, .bool xf] 48)
            have hX := At.new 48 wr #[.int .i64 xn, .int .i64 xs, .bool xf]
            have hbm2 := hbm.trans (hbx.mono hbm.size)
            have hwi : IntKind.i64.wrap ((i : Int) + 1) = (i : Int) + 1 := by rw [IntKind.wrap_i64]; omega
            have hcap := hrc.cap
            have hCw := hC1.below hbm2
            have hsub := (hrc.below hbm2).back3 (k := i + 1) (by omega) (by omega)
            obtain ⟨cc0, cc1⟩ := hCw.two
            have hle1 : (i : Int) + 1 ≤ (nc : Int) := by omega
            clear hcc Hxn Hxs Hxf
            by_cases hdi : dc = i + 1
            · have hnci : nc = i + 1 := by omega
              have hn0 : nc - (i + 1) = 0 := by omega
              clear hsub
              subst hdi
              have HNC : Hid (nc = i + 1) := hnci
              clear hnci
              go_wp2_with fail
              generalize (wr.alloc (.cells #[.int .i64 xn, .int .i64 xs, .bool xf] 48)) = wi at *
              generalize wr.heap.size = gx at *
              go_loopw [87] (fun ix wq => ix = .int .i64 0 ∧ Below wi.heap.size wi wq) (fun _ _ => 0)
              case atStart => exact ⟨rfl, Below.refl _ _⟩
              case round =>
                obtain ⟨rfl, hbq⟩ := hrel
                have hbq2 := hbm2.trans (hbq.mono hbm2.size)
                have hXq := hX.below hbq
                have h8q := hA8m.below hbq2
                have hrq := hrlm.below hbq2
                obtain ⟨t0, t1⟩ := h8q.two
                obtain ⟨u0, u1, u2⟩ := hXq.three
                have cP := Place_any e1 ql ms1.length dl ms1 xn wr hrq (by omega)
                cases xf with
                | true =>
                  clear cP
                  go_wp2_with fail
                  go_roundw
                  case rel => exact ⟨i + 1, by omega, by go_num, hbq2⟩
                  case measure => simp [intOf]; omega
                | false =>
                  have hA0 := HF1.out rfl
                  generalize plc e1 ms1 xn = A at *
                  have hAd : decide (A < 0) = false := decide_eq_false (by omega)
                  have hA0' : 0 ≤ A := by omega
                  clear hA0
                  go_wp2_with fail
                  refine cP.mono ?_
                  rintro o wt ⟨rfl, hbt⟩
                  have hbt2 := hbq2.trans (hbt.mono hbq2.size)
                  clear cP
                  go_wp2_with fail
                  go_roundw
                  case rel => exact ⟨i + 1, by omega, by go_num, hbt2⟩
                  case measure => simp [intOf]; omega
            · have hdi2 : ¬ dc = i + 1 := hdi
              clear hdi
              go_wp2_with fail
              generalize (wr.alloc (.cells #[.int .i64 xn, .int .i64 xs, .bool xf] 48)) = wi at *
              generalize wr.heap.size = gx at *
              go_loopw [87] (fun ix wq => ∃ l : Nat, l ≤ nc - (i + 1) ∧ ix = .int .i64 l ∧ Below wi.heap.size wi wq) (fun ix _ => nc - (i + 1) - (intOf ix).toNat)
              case atStart => exact ⟨0, Nat.zero_le _, rfl, Below.refl _ _⟩
              case round =>
                obtain ⟨l, hll2, rfl, hbq⟩ := hrel
                by_cases hln : l < nc - (i + 1)
                · skip
                  have hltl : (l : Int) < ((nc - (i + 1) : Nat) : Int) := by omega
                  have hsubq := hsub.below hbq
                  obtain ⟨b', o', e', hcs⟩ := hsubq.cells (by omega)
                  cases e'
                  obtain ⟨y1, y2, y3⟩ := hcs l hln
                  have eY : (ms2.drop (i + 1)).getD l .z0 = ms2.getD (i + 1 + l) .z0 := by rw [List.getD_eq_getElem?_getD, List.getD_eq_getElem?_getD, List.getElem?_drop]
                  rw [eY] at y1 y2 y3
                  have hFy := HF2.out (i + 1 + l) (by omega) (by omega)
                  clear hcs eY
                  generalize ms2.getD (i + 1 + l) .z0 = Y at *
                  obtain ⟨yn, ys, yf⟩ := Y
                  dsimp only at y1 y2 y3 hFy
                  have hby := below_alloc wr (.cells #[.int .i64 yn, .int .i64 ys, .bool yf] 48)
                  have hY := At.new 48 wr #[.int .i64 yn, .int .i64 ys, .bool yf]
                  have hbqy := hbq.trans (hby.mono hbq.size)
                  have hbq2 := hbm2.trans (hbqy.mono hbm2.size)
                  have hXq := hX.below hbqy
                  have h8q := hA8m.below hbq2
                  have hrq := hrlm.below hbq2
                  clear hsubq
                  go_wp2_with fail
                  obtain ⟨t0, t1⟩ := h8q.two
                  obtain ⟨u0, u1, u2⟩ := hXq.three
                  obtain ⟨v0, v1, v2⟩ := hY.three
                  generalize (wr.alloc (.cells #[.int .i64 yn, .int .i64 ys, .bool yf] 48)) = wy at *
                  generalize wr.heap.size = gy at *
                  have rt0 := cell_regrown t0
                  have rt1 := cell_regrown t1
                  have ru0 := cell_regrown u0
                  have rv0 := cell_regrown v0
                  have cX := fun dd os => Calls.regrown_of (Place_any e1 ql ms1.length dl ms1 xn _ (hrq.below (below_regrown wy dd os)) (by omega))
                  have cY := fun dd os => Calls.regrown_of (Place_any e1 ql ms1.length dl ms1 yn _ (hrq.below (below_regrown wy dd os)) (by omega))
                  generalize plc e1 ms1 xn = A at *
                  generalize plc e1 ms1 yn = Bv at *
                  clear t0 t1 u0 u1 u2 v0 v1 v2 hY hXq h8q hrq
                  refine wp_region_quiet_below (by kernel_rfl) (by kernel_rfl) ?_
                  repeat (quiet_step (first | (go_at_call 22; with_reducible exact cX _ _) | (go_at_call 22; with_reducible exact cY _ _)))
                  refine wpQuiet_nil ?_
                  intro _ hw'
                  obtain ⟨⟨dq, osq⟩, hw''⟩ := hw'
                  subst hw''
                  have hbqz := hbqy.trans ((below_regrown wy dq osq).mono hbqy.size)
                  clear cX cY rt0 rt1 ru0 rv0
                  by_cases hA0 : 0 ≤ A
                  · by_cases hB0 : 0 ≤ Bv
                    · have hd1 : decide (Bv < A) = false := decide_eq_false (fun h => hFy ⟨hA0, hB0, h⟩)
                      clear hFy
                      go_wp2_with fail
                      go_roundw
                      case rel => exact ⟨l + 1, by omega, by go_num, hbqz⟩
                      case measure => simp [intOf]; omega
                    · have hd1 : decide (0 ≤ Bv) = false := decide_eq_false hB0
                      clear hFy hB0
                      go_wp2_with fail
                      go_roundw
                      case rel => exact ⟨l + 1, by omega, by go_num, hbqz⟩
                      case measure => simp [intOf]; omega
                  · have hd1 : decide (0 ≤ A) = false := decide_eq_false hA0
                    clear hFy hA0
                    go_wp2_with fail
                    go_roundw
                    case rel => exact ⟨l + 1, by omega, by go_num, hbqz⟩
                    case measure => simp [intOf]; omega
                · have hnl : ¬ (l : Int) < ((nc - (i + 1) : Nat) : Int) := by omega
                  have hbq2 := hbm2.trans (hbq.mono hbm2.size)
                  have hXq := hX.below hbq
                  have h8q := hA8m.below hbq2
                  have hrq := hrlm.below hbq2
                  obtain ⟨t0, t1⟩ := h8q.two
                  obtain ⟨u0, u1, u2⟩ := hXq.three
                  have cP := Place_any e1 ql ms1.length dl ms1 xn wr hrq (by omega)
                  cases xf with
                  | true =>
                    clear cP
                    go_wp2_with fail
                    go_roundw
                    case rel => exact ⟨i + 1, by omega, by go_num, hbq2⟩
                    case measure => simp [intOf]; omega
                  | false =>
                    have hA0 := HF1.out rfl
                    generalize plc e1 ms1 xn = A at *
                    have hAd : decide (A < 0) = false := decide_eq_false (by omega)
                    have hA0' : 0 ≤ A := by omega
                    clear hA0
                    go_wp2_with fail
                    refine cP.mono ?_
                    rintro o wt ⟨rfl, hbt⟩
                    have hbt2 := hbq2.trans (hbt.mono hbq2.size)
                    clear cP
                    go_wp2_with fail
                    go_roundw
                    case rel => exact ⟨i + 1, by omega, by go_num, hbt2⟩
                    case measure => simp [intOf]; omega
          · skip
            obtain rfl : i = nc := by omega
            have h8q := hA8m.below hbm
            have hrq := hrlm.below hbm
            have hCq := hC1.below hbm
            have hrcq := hrc.below hbm
            have hTq := hLm.below hbm
            have hBq := hBm.trans (hbm.mono hBms)
            have HSh : Hid (0 < pop (thN (fun _ => true) 0 ms2 &&& thN (fun _ => true) 0 ms1)) := fol_share hk1 hk2 HFol.out
            have hX0 := thN_lt (fun _ => true) ms2 0 (by omega)
            have hY0 := thN_lt (fun _ => true) ms1 0 (by omega)
            obtain ⟨t0, t1⟩ := h8q.two
            obtain ⟨c0, c1⟩ := hCq.two
            have rt0 := cell_regrown t0
            have rt1 := cell_regrown t1
            have rc0 := cell_regrown c0
            have rc1 := cell_regrown c1
            have cN2 := fun dd os => Calls.regrown_of (Nodes_any ((k : Int) + 2) qc i dc ms2 _ (hrcq.below (below_regrown wr dd os)) (by omega))
            have cN1 := fun dd os => Calls.regrown_of (Nodes_any e1 ql ms1.length dl ms1 _ (hrq.below (below_regrown wr dd os)) (by omega))
            generalize thN (fun _ => true) 0 ms2 = X at *
            generalize thN (fun _ => true) 0 ms1 = Y at *
            have hV0 : X &&& Y < 18446744073709551616 := Nat.lt_of_le_of_lt Nat.and_le_left hX0
            have cA := fun dd os => Calls.regrown_of (andE_any X Y (Sort.grow (redrawn wr dd) os) hX0 hY0)
            have cL := fun dd os => Calls.regrown_of (lenE_any (X &&& Y) (Sort.grow (redrawn wr dd) os) hV0)
            generalize pop (X &&& Y) = z at *
            generalize X &&& Y = V at *
            have hz0 : ((z : Int) == 0) = false := by have := HSh.out; rw [beq_eq_false_iff_ne]; omega
            clear HSh hX0 hY0 hV0
            go_wp2_with fail
            clear t0 t1 c0 c1
            refine wp_region_quiet_below (by kernel_rfl) (by kernel_rfl) ?_
            repeat (quiet_step (first | (go_at_call 23; with_reducible exact cN2 _ _) | (go_at_call 23; with_reducible exact cN1 _ _) | (go_at_call 24; exact cA _ _) | (go_at_call 25; exact cL _ _)))
            refine wpQuiet_nil ?_
            intro _ hw'
            obtain ⟨⟨dq, osq⟩, hw''⟩ := hw'
            subst hw''
            have hbz := below_regrown wr dq osq
            have h8z := h8q.below hbz
            have hCz := hCq.below hbz
            have hrcz := hrcq.below hbz
            have hTz := hTq.below hbz
            have hBz := hBq.trans (hbz.mono (Nat.le_trans hBms hbm.size))
            clear cN1 cN2 cA cL rt0 rt1 rc0 rc1 h8q hrq hCq hrcq hTq hBq hbz
            generalize Sort.grow (redrawn wr dq) osq = wz at *
            obtain ⟨t0, t1⟩ := h8z.two
            obtain ⟨c0, c1⟩ := hCz.two
            have f0 := h8z.free 0
            have f1 := h8z.free 1
            obtain ⟨Wf, hWf, hYf, hbW⟩ := h8z.put2 hg8 w hBz (.int .i64 ((k : Int) + 2)) (.slice qc i dc)
            have hEx : Ex2 g8 g8 wz Wf := by rw [hWf]; exact ((Ex2.refl g8 g8 wz).setG 0 _).setG 1 _
            have hTf := hTz.ex2 hEx (Or.inl rfl)
            have hRf : RdM Wf qc i dc ms2 := by rw [hWf]; exact hrcz.put _ _ (fun a ha h0 => hqf3 a ha h0)
            have hEp : Ep w B g r g8 s (k + 1) Wf := ⟨qc, dc, hTf, by rw [Hms2.out, Hnc.out, show (((k + 1 : Nat) : Int) + 1) = (k : Int) + 2 by omega]; exact hYf, by rw [Hms2.out, Hnc.out]; exact hRf, fun a ha h0 => hqf3 a ha (by rw [Hms2.out, Hnc.out] at h0; exact h0), hbW⟩
            have hw3 : IntKind.i64.wrap ((k : Int) + 2 + 1) = (k : Int) + 2 + 1 := by rw [IntKind.wrap_i64]; omega
            have HWf : Hid (Wf = (wz.setCell ⟨g8, 0, none⟩ (.int .i64 ((k : Int) + 2))).setCell ⟨g8, 1, none⟩ (.slice qc i dc)) := hWf
            clear hWf hYf hbW hEx hTf hRf hTz hrcz h8z hCz
            go_wp2_with fail
            rw [← HWf.out]
            exact ⟨⟨k + 1, by omega, by first | rfl | go_num | (congr 1; omega), hEp⟩, by simp [intOf]; omega⟩
      · skip
        have hkl : k + 1 = s.H.length := by omega
        have hd2 : decide ((k : Int) + 2 ≤ s.e) = false := decide_eq_false (by omega)
        have HNow : Hid (thN (fun _ => true) 0 s.ms = thN (fun _ => true) 0 (s.H.getD k (0, [])).2) := by
          have := HPast.out.now
          rw [show s.H.length - 1 = k by omega] at this
          exact thN_nds _ _ 0 this.symm
        have h61 := H6.out k (by omega)
        obtain ⟨ms1, Hms1⟩ : ∃ z, Hid ((s.H.getD k (0, [])).2 = z) := ⟨_, rfl⟩
        rw [Hms1.out] at hA8 hrl hqf HNow h61
        obtain ⟨e1, He1⟩ : ∃ z, Hid ((k : Int) + 1 = z) := ⟨_, rfl⟩
        rw [He1.out] at hA8
        have hwe : IntKind.i64.wrap (s.e + 1) = s.e + 1 := by rw [IntKind.wrap_i64]; omega
        have HKL : Hid (k + 1 = s.H.length) := hkl
        clear hkl hk1
        go_wp2_with fail
        refine cCh.mono ?_
        rintro o w1 ⟨v, rfl, qx, dx, rfl, _, _, hb1⟩
        have cCh1 := Chain_any g r s w1 (hL.below hb1) hl6
        clear cCh
        go_wp2_with fail
        refine cCh1.mono ?_
        rintro o w2 ⟨v, rfl, qx2, dx2, rfl, _, _, hb2⟩
        have hb12 := hb1.trans (hb2.mono hb1.size)
        have hOf := OfL_no g r s w2 (hL.below hb12) (s.e + 1) (by omega)
        clear cCh1
        go_wp2_with fail
        refine hOf.mono ?_
        rintro o w3 ⟨v, rfl, q3, d3, rfl, _, _, hb3⟩
        have hb13 := hb12.trans (hb3.mono hb12.size)
        have hb3a := below_alloc w3 (.cells #[.int .i64 0, .slice q3 0 d3] 42)
        have hb14 := hb13.trans (hb3a.mono hb13.size)
        have hL4 := hL.below hb14
        have hA4 := hA8.below hb14
        have hr4 := hrl.below hb14
        have hB4 := hb.trans (hb14.mono hgB)
        have hB4s : B ≤ w3.heap.size := Nat.le_trans hgB hb13.size
        simp only [List.length_nil]
        clear hOf hb1 hb2 hb12 hb3 hb13 hb3a hb14 hL hT hA8 hrl hb hfe
        go_wp2_with fail
        have hB4t : B ≤ (w3.alloc (.cells #[.int .i64 0, .slice q3 0 d3] 42)).heap.size := by simp; omega
        generalize (w3.alloc (.cells #[.int .i64 0, .slice q3 0 d3] 42)) = w4 at *
        have hS4 : Bl w4 w4.drew := (Below.refl _ _).drew
        refine wp_region_det [0, 1, 2, 3, 6, 8, 9, 10, 12, 13] (fun W => At 42 W g8 #[.int .i64 e1, .slice ql ms1.length dl]) (Bl w4) (by kernel_rfl) hS4 ?_
        refine wpDet_take ?vZ0 (Bl.stays w4) (fun W h => hA4.below h) (i := 0) rfl (by kernel_rfl) (by kernel_rfl) (by kernel_rfl) (by kernel_rfl) (fun _ _ _ h => h) (Gives.value (by rfl) ?yZ0) ?rZ0
        case yZ0 => (intro w' hSw; go_simp; try with_reducible rfl)
        (try simp only [Act.put, List.getElem_toArray, List.getElem_cons_zero, List.getElem_cons_succ, List.setIfInBounds_toArray, List.set_cons_zero, List.set_cons_succ])
        refine wpDet_take ?vZ1 (Bl.stays w4) (fun W h => hA4.below h) (i := 1) rfl (by kernel_rfl) (by kernel_rfl) (by kernel_rfl) (by kernel_rfl) (fun _ _ _ h => h) (Gives.value (by rfl) ?yZ1) ?rZ1
        case yZ1 => (intro w' hSw; go_simp; try with_reducible rfl)
        (try simp only [Act.put, List.getElem_toArray, List.getElem_cons_zero, List.getElem_cons_succ, List.setIfInBounds_toArray, List.set_cons_zero, List.set_cons_succ])
        refine wpDet_take ?vZ2 (Bl.stays w4) (fun W h => hA4.below h) (i := 2) rfl (by kernel_rfl) (by kernel_rfl) (by kernel_rfl) (by kernel_rfl) (fun _ _ _ h => h) (Gives.value (by rfl) ?yZ2) ?rZ2
        case yZ2 => (intro w' hSw; go_simp; try with_reducible rfl)
        (try simp only [Act.put, List.getElem_toArray, List.getElem_cons_zero, List.getElem_cons_succ, List.setIfInBounds_toArray, List.set_cons_zero, List.set_cons_succ])
        refine wpDet_take ?vZ3 (Bl.stays w4) (fun W h => hA4.below h) (i := 3) rfl (by kernel_rfl) (by kernel_rfl) (by kernel_rfl) (by kernel_rfl) (fun _ _ _ h => h) (Gives.value (by rfl) ?yZ3) ?rZ3
        case yZ3 => (intro w' hSw; go_simp; try with_reducible rfl)
        (try simp only [Act.put, List.getElem_toArray, List.getElem_cons_zero, List.getElem_cons_succ, List.setIfInBounds_toArray, List.set_cons_zero, List.set_cons_succ])
        refine wpDet_take _ (Bl.stays w4) (fun W h => hA4.below h) (i := 6) rfl (by kernel_rfl) (by kernel_rfl) (by kernel_rfl) (by kernel_rfl) (fun _ _ _ h => h) (Gives.of_yields (yieldsIf_load_mid (by rfl) _ _ rfl _ _ rfl _ _ (fun W h => At.range (cs := [.int .i64 e1, .slice ql ms1.length dl]) h) Try.underlying42 rfl sizeC)) ?_
        (try simp only [Act.put, List.getElem_toArray, List.getElem_cons_zero, List.getElem_cons_succ, List.setIfInBounds_toArray, List.set_cons_zero, List.set_cons_succ])
        refine wpDet_ready (rs := [4]) (by kernel_rfl) (by simp) (AllDet.cons rfl (fun V hV K hK => ?_) AllDet.nil)
        rw [if_pos (by rfl)]
        refine wp_enterE 20 #[.pointer (some ⟨g, 0, none⟩)] (by first | (go_simp; done) | (go_simp; rfl)) (fun v W => (∃ q d, v = .agg #[.int .i64 s.e, .slice q s.ms.length d] ∧ RdM W q s.ms.length d s.ms) ∧ Below V.heap.size V W) ((Chain_any g r s V (hL4.below hV) hl6).mono fun e' w' hh => by obtain ⟨v, h1, q, d, h2, h4, _, h3⟩ := hh; exact ⟨v, h1, ⟨q, d, h2, h4⟩, h3⟩) ?_
        rintro v V7 ⟨⟨qa, da, rfl, hra⟩, hb7⟩
        refine hK.out (Br w4 qa s.ms.length da s.ms) _ _ (Br.stays w4 _ _ _ _) (fun _ W h => hA4.below h.1) ⟨Bl.stays w4 V V7 hV hb7, hra⟩ ?_
        clear hK K hV hb7 hra
        (try simp only [Act.put, List.getElem_toArray, List.getElem_cons_zero, List.getElem_cons_succ, List.setIfInBounds_toArray, List.set_cons_zero, List.set_cons_succ])
        refine wpDet_ready (rs := [5]) (by kernel_rfl) (by simp) (AllDet.cons rfl (fun V hV K hK => ?_) AllDet.nil)
        rw [if_pos (by rfl)]
        have hNa := Nodes_any s.e qa s.ms.length da s.ms V hV.2 (by omega)
        rw [HNow.out] at hNa
        refine wp_enterE 23 #[.agg #[.int .i64 s.e, .slice qa s.ms.length da]] (by first | (go_simp; done) | (go_simp; rfl)) (fun v W => v = .int .u64 ((thN (fun _ => true) 0 ms1 : Nat) : Int) ∧ Below V.heap.size V W) (hNa.mono fun e' w' hh => ⟨_, hh.1, rfl, hh.2⟩) ?_
        rintro v V7 ⟨rfl, hb7⟩
        refine hK.out (Bl w4) _ _ (Bl.stays w4) (fun _ => (fun W h => hA4.below h)) (Bl.stays w4 V V7 hV.1 hb7) ?_
        clear hK K hV hb7 hNa
        (try simp only [Act.put, List.getElem_toArray, List.getElem_cons_zero, List.getElem_cons_succ, List.setIfInBounds_toArray, List.set_cons_zero, List.set_cons_succ])
        refine wpDet_ready (rs := [7]) (by kernel_rfl) (by simp) (AllDet.cons rfl (fun V hV K hK => ?_) AllDet.nil)
        rw [if_pos (by rfl)]
        have hNb := Nodes_any e1 ql ms1.length dl ms1 V (hr4.below hV) (by omega)
        refine wp_enterE 23 #[.agg #[.int .i64 e1, .slice ql ms1.length dl]] (by first | (go_simp; done) | (go_simp; rfl)) (fun v W => v = .int .u64 ((thN (fun _ => true) 0 ms1 : Nat) : Int) ∧ Below V.heap.size V W) (hNb.mono fun e' w' hh => ⟨_, hh.1, rfl, hh.2⟩) ?_
        rintro v V7 ⟨rfl, hb7⟩
        refine hK.out (Bl w4) _ _ (Bl.stays w4) (fun _ => (fun W h => hA4.below h)) (Bl.stays w4 V V7 hV hb7) ?_
        clear hK K hV hb7 hNb
        generalize thN (fun _ => true) 0 ms1 = X at *
        (try simp only [Act.put, List.getElem_toArray, List.getElem_cons_zero, List.getElem_cons_succ, List.setIfInBounds_toArray, List.set_cons_zero, List.set_cons_succ])
        refine wpDet_take (.bool true) (Bl.stays w4) (fun W h => hA4.below h) (i := 8) rfl (by kernel_rfl) (by kernel_rfl) (by kernel_rfl) (by kernel_rfl) (fun _ _ _ h => h) (Gives.value (by rfl) ?yZ8) ?rZ8
        case yZ8 => (intro w' hSw; go_simp; first | done | simp)
        (try simp only [Act.put, List.getElem_toArray, List.getElem_cons_zero, List.getElem_cons_succ, List.setIfInBounds_toArray, List.set_cons_zero, List.set_cons_succ])
        refine wpDet_take ?vZ9 (Bl.stays w4) (fun W h => hA4.below h) (i := 9) rfl (by kernel_rfl) (by kernel_rfl) (by kernel_rfl) (by kernel_rfl) (fun _ _ _ h => h) (Gives.value (by rfl) ?yZ9) ?rZ9
        case yZ9 => (intro w' hSw; go_simp; try with_reducible rfl)
        (try simp only [Act.put, List.getElem_toArray, List.getElem_cons_zero, List.getElem_cons_succ, List.setIfInBounds_toArray, List.set_cons_zero, List.set_cons_succ])
        refine wpDet_take ?vZ10 (Bl.stays w4) (fun W h => hA4.below h) (i := 10) rfl (by kernel_rfl) (by kernel_rfl) (by kernel_rfl) (by kernel_rfl) (fun _ _ _ h => h) (Gives.value (by rfl) ?yZ10) ?rZ10
        case yZ10 => (intro w' hSw; go_simp; try with_reducible rfl)
        (try simp only [Act.put, List.getElem_toArray, List.getElem_cons_zero, List.getElem_cons_succ, List.setIfInBounds_toArray, List.set_cons_zero, List.set_cons_succ])
        refine wpDet_ready (rs := [11]) (by kernel_rfl) (by simp) (AllDet.cons rfl (fun V hV K hK => ?_) AllDet.nil)
        rw [if_pos (by rfl)]
        refine wp_enterE 8 #[] (by first | (go_simp; done) | (go_simp; rfl)) (fun v W => v = .bool true ∧ Below V.heap.size V W) ((hW V).mono fun e' w' hh => ⟨_, hh.1, rfl, hh.2⟩) ?_
        rintro v V7 ⟨rfl, hb7⟩
        refine hK.out (Bl w4) _ _ (Bl.stays w4) (fun _ => (fun W h => hA4.below h)) (Bl.stays w4 V V7 hV hb7) ?_
        clear hK K hV hb7
        (try simp only [Act.put, List.getElem_toArray, List.getElem_cons_zero, List.getElem_cons_succ, List.setIfInBounds_toArray, List.set_cons_zero, List.set_cons_succ])
        refine wpDet_take ?vZ12 (Bl.stays w4) (fun W h => hA4.below h) (i := 12) rfl (by kernel_rfl) (by kernel_rfl) (by kernel_rfl) (by kernel_rfl) (fun _ _ _ h => h) (Gives.value (by rfl) ?yZ12) ?rZ12
        case yZ12 => (intro w' hSw; go_simp; try with_reducible rfl)
        (try simp only [Act.put, List.getElem_toArray, List.getElem_cons_zero, List.getElem_cons_succ, List.setIfInBounds_toArray, List.set_cons_zero, List.set_cons_succ])
        refine wpDet_take ?vZ13 (Bl.stays w4) (fun W h => hA4.below h) (i := 13) rfl (by kernel_rfl) (by kernel_rfl) (by kernel_rfl) (by kernel_rfl) (fun _ _ _ h => h) (Gives.value (by rfl) ?yZ13) ?rZ13
        case yZ13 => (intro w' hSw; go_simp; try with_reducible rfl)
        (try simp only [Act.put, List.getElem_toArray, List.getElem_cons_zero, List.getElem_cons_succ, List.setIfInBounds_toArray, List.set_cons_zero, List.set_cons_succ])
        refine wpDet_done (by kernel_rfl) (fun wz hV => ?_) _
        have HBz := hB4.trans ((Bl.out hV).mono hB4t)
        clear hL4 hA4 hr4
        go_wp2_with fail
        go_ret
        exact ⟨rfl, by rw [HBB.out]; exact HBz⟩

end Go.Proofs.Ytcnkpgbmegppbaa.M
