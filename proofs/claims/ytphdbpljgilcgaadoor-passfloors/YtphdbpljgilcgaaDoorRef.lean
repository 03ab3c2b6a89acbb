/-
  Own text: contracts of the reference's Put, Ints, Bool, Bytes.
-/
import Derived.Test.YtphdbpljgilcgaaDoorPut2
namespace Go.Proofs.YtphdbpljgilcgaaDoor.M
open Go.ChangeShapes Go.WideShapes Go.ChangeAt Go.RowKit

theorem small_step {m j : Nat} (h : m < 128 ^ (10 - j)) (hj : j < 10) : m / 128 < 128 ^ (10 - (j + 1)) := by
  have e : 10 - j = (10 - (j + 1)) + 1 := by omega
  rw [e, Nat.pow_succ] at h
  exact Nat.div_lt_of_lt_mul (by rw [Nat.mul_comm]; exact h)

theorem small_end {m j : Nat} (h : m < 128 ^ (10 - j)) (hj : 10 ≤ j) : m < 128 := by
  rw [show 10 - j = 0 by omega] at h
  simp at h
  omega

theorem byte_great (m : Nat) : ((128 + (m : Int) % 128) % 256) = ((128 + m % 128 : Nat) : Int) := by omega

end Go.Proofs.YtphdbpljgilcgaaDoor.M
