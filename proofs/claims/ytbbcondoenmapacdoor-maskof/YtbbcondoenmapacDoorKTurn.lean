/-
  Own text: contracts of the library's rotation, of mask's Turned and of the reference's.
-/
import Derived.Test.YtbbcondoenmapacDoorKAt
import Derived.Test.YtbbcondoenmapacDoorKRef
namespace Go.Proofs.YtbbcondoenmapacDoor.M
open Go.ChangeShapes Go.WideShapes Go.ChangeAt Go.RowKit

theorem run_index_row (bs : List Bool) (k : Nat) (w : World) (hl : bs.length = 64) (hk : k < 64) : (Instr.index 25 (.agg (bools bs)) (.int .i64 k)).run Tryd.prog w = .ok (.bool (bs.getD k false)) w := by
  have hu : Tryd.prog.underlying 25 = some (.array 64 4) := Tryd.underlying25
  have hg : (bools bs)[k]? = some (.bool (bs[k]?.getD false)) := by
    rw [bools, List.getElem?_toArray, List.getElem?_map, List.getElem?_eq_getElem (by omega)]
    rfl
  simp [Instr.index, run_underlying hu, asIntOf, go_sem]
  rw [if_pos hk, hg]
  rfl

/-- A word turned. -/
def rot (x t : Nat) : Nat := (x * 2 ^ t % 18446744073709551616) ||| (x / 2 ^ (64 - t))

theorem rot_lt {x t : Nat} (hx : x < 18446744073709551616) : rot x t < 18446744073709551616 :=
  or_lt64 (Nat.mod_lt _ (by decide)) (Nat.lt_of_le_of_lt (Nat.div_le_self _ _) hx)

theorem testBit_high {x j : Nat} (hx : x < 18446744073709551616) (h : 64 ≤ j) : x.testBit j = false := by
  apply Nat.testBit_lt_two_pow
  exact Nat.lt_of_lt_of_le hx (Nat.pow_le_pow_right (n := 2) (by decide) h)

theorem rot_bit {x t j : Nat} (hx : x < 18446744073709551616) (ht : t < 64) (hj : j < 64) : (rot x t).testBit j = x.testBit ((j + (64 - t)) % 64) := by
  unfold rot
  rw [Nat.testBit_or, show 18446744073709551616 = 2 ^ 64 from rfl, Nat.testBit_mod_two_pow, decide_eq_true hj, Bool.true_and, Nat.mul_comm, Nat.testBit_two_pow_mul, Nat.testBit_div_two_pow]
  by_cases h : t ≤ j
  · rw [testBit_high hx (show 64 ≤ j + (64 - t) by omega), Bool.or_false, decide_eq_true (show j ≥ t from h), Bool.true_and]
    congr 1
    omega
  · rw [decide_eq_false (show ¬ (j ≥ t) from h), Bool.false_and, Bool.false_or]
    congr 1
    omega

theorem and63 (n : Int) : bits .and .u64 (IntKind.u64.wrap n) 63 = ((n % 64).toNat : Int) := by
  rw [IntKind.wrap_u64, u64_and _ _ (by omega) (by omega) (by omega) (by omega)]
  have e : ((63 : Int).toNat) = 2 ^ 6 - 1 := rfl
  rw [e, Nat.and_two_pow_sub_one_eq_mod]
  omega

/-- The answers turned, as far as they have been gone through. -/
def turnL (bs : List Bool) (t k : Nat) : List Bool := (List.range 64).map fun j => decide ((j + (64 - t)) % 64 < k) && bs.getD ((j + (64 - t)) % 64) false

theorem turnL_len (bs : List Bool) (t k : Nat) : (turnL bs t k).length = 64 := by simp [turnL]

theorem turnL_zero (bs : List Bool) (t : Nat) : turnL bs t 0 = List.replicate 64 false := by
  apply List.ext_getElem
  · simp [turnL]
  · intro i h1 h2
    rw [List.getElem_replicate]
    simp only [turnL, List.getElem_map]
    rw [decide_eq_false (by omega)]
    rfl

theorem turnL_set (bs : List Bool) {t k : Nat} (ht : t < 64) (hk : k < 64) : (turnL bs t k).set ((k + t) % 64) (bs.getD k false) = turnL bs t (k + 1) := by
  apply List.ext_getElem
  · simp [turnL]
  · intro i h1 h2
    have hi : i < 64 := by simpa [turnL] using h2
    rw [List.getElem_set]
    simp only [turnL, List.getElem_map, List.getElem_range]
    by_cases h : (k + t) % 64 = i
    · have e : (i + (64 - t)) % 64 = k := by omega
      rw [if_pos h, e, decide_eq_true (by omega)]
      rfl
    · rw [if_neg h]
      congr 1
      have : (i + (64 - t)) % 64 ≠ k := by omega
      simp only [decide_eq_decide]
      omega

theorem turnL_end (x : Nat) {t : Nat} (hx : x < 18446744073709551616) (ht : t < 64) : turnL (bitL x) t 64 = bitL (rot x t) := by
  unfold turnL
  unfold bitL
  apply List.map_congr_left
  intro i hi
  have hi' : i < 64 := by simpa using hi
  have h64 : (i + (64 - t)) % 64 < 64 := Nat.mod_lt _ (by decide)
  rw [decide_eq_true h64, rot_bit hx ht hi']
  exact bitL_get x h64

theorem tmod64 (n : Int) : n.tmod 64 = (n % 64).toNat ∨ n.tmod 64 = (n % 64).toNat - 64 := by
  rcases Int.le_total 0 n with h | h
  · rw [Int.tmod_eq_emod_of_nonneg h]; omega
  · obtain ⟨k, rfl⟩ : ∃ k, n = -k := ⟨-n, by omega⟩
    rw [Int.neg_tmod, Int.tmod_eq_emod_of_nonneg (by omega)]
    omega

end Go.Proofs.YtbbcondoenmapacDoor.M
