/-
  Own text: the contract of the reference's Set; it is the program's.
-/
import Derived.Test.YtigojnpjpagfjaaDoorYRefP
namespace Go.Proofs.YtigojnpjpagfjaaDoor.M
open Go.ChangeShapes Go.WideShapes Go.ChangeAt Go.RowKit

/-- The sum of the powers of which something is so. -/
def sumB (p : Nat → Bool) : Nat → Nat
  | 0 => 0
  | k + 1 => sumB p k + if p k = true then 2 ^ k else 0

theorem sumB_lt (p : Nat → Bool) : ∀ k, sumB p k < 2 ^ k
  | 0 => by simp [sumB]
  | k + 1 => by
    have := sumB_lt p k
    unfold sumB
    rw [Nat.pow_succ]
    split <;> omega

theorem sumB_mod (p : Nat → Bool) (x : Nat) : ∀ k, (∀ j, j < k → p j = x.testBit j) → sumB p k = x % 2 ^ k
  | 0, _ => by rw [Nat.pow_zero, Nat.mod_one]; rfl
  | k + 1, h => by
    unfold sumB
    rw [sumB_mod p x k (fun j hj => h j (by omega)), h k (by omega), Nat.mod_pow_succ, Nat.testBit_eq_decide_div_mod_eq]
    by_cases hy : x / 2 ^ k % 2 = 1
    · rw [hy, decide_eq_true rfl, if_pos rfl, Nat.mul_one]
    · have h0 : x / 2 ^ k % 2 = 0 := by omega
      rw [h0]
      simp

theorem bitN_test (n : Int) (j : Nat) (hj : j < 64) : (bitN n).testBit j = (n == (j : Int)) := by
  unfold bitN
  split
  · next h =>
    obtain ⟨k, rfl⟩ := Int.eq_ofNat_of_zero_le h.1
    rw [Int.toNat_natCast, Nat.testBit_two_pow]
    by_cases hk : k = j
    · subst hk; simp
    · rw [decide_eq_false hk]; symm; simp; omega
  · next h =>
    rw [Nat.zero_testBit]
    symm
    simp
    omega

theorem thN_test (pr : Mb → Bool) (j : Nat) (hj : j < 64) : ∀ (l : List Mb) (x : Nat), (thN pr x l).testBit j = (x.testBit j || l.any fun m => pr m && m.n == (j : Int))
  | [], x => by simp [thN]
  | m :: l, x => by
    unfold thN
    rw [thN_test pr j hj l, List.any_cons]
    cases h : pr m with
    | true => rw [if_pos rfl, Nat.testBit_or, bitN_test _ _ hj, Bool.true_and, Bool.or_assoc]
    | false => rw [if_neg (by decide), Bool.false_and, Bool.false_or]

/-- Whether a number is a node of a member: of all, or of those that are not fresh. -/
def hasR (wh : Bool) (ms : List Mb) (j : Nat) : Bool := ms.any fun m => m.n == (j : Int) && !(wh && m.f)

theorem sum_set (wh : Bool) (pr : Mb → Bool) (hpr : ∀ m, pr m = !(wh && m.f)) (ms : List Mb) : sumB (hasR wh ms) 64 = thN pr 0 ms := by
  rw [sumB_mod (hasR wh ms) (thN pr 0 ms) 64 (fun j hj => by
    rw [thN_test pr j hj ms 0, Nat.zero_testBit, Bool.false_or]
    unfold hasR
    congr 1
    funext m
    rw [hpr m, Bool.and_comm])]
  exact Nat.mod_eq_of_lt (thN_lt pr ms 0 (by decide))

end Go.Proofs.YtigojnpjpagfjaaDoor.M
