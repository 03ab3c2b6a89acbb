/-
  Own text: the check sum in plain words, and contracts of the program's Sum and of the reference's.
-/
import Derived.Test.YtphdbpljgilcgaaDoorPut
namespace Go.Proofs.YtphdbpljgilcgaaDoor.M
open Go.ChangeShapes Go.WideShapes Go.ChangeAt Go.RowKit

/-- One bit of the sum. -/
def crcStep (c : Nat) : Nat := if c % 2 = 1 then (c / 2) ^^^ 2197175160 else c / 2
/-- Several bits. -/
def crcIt : Nat → Nat → Nat
  | 0, c => c
  | j + 1, c => crcStep (crcIt j c)
/-- The sum of a list, from a beginning on. -/
def crcFrom (c : Nat) (xs : List Int) : Nat := xs.foldl (fun c x => crcIt 8 (c ^^^ x.toNat)) c
/-- The sum. -/
def sumN (xs : List Int) : Nat := 4294967295 - crcFrom 4294967295 xs

theorem xor_lt32 {a b : Nat} (ha : a < 4294967296) (hb : b < 4294967296) : a ^^^ b < 4294967296 := Nat.xor_lt_two_pow (n := 32) ha hb

theorem crcStep_lt {c : Nat} (h : c < 4294967296) : crcStep c < 4294967296 := by
  unfold crcStep
  split
  · exact xor_lt32 (by omega) (by omega)
  · omega

theorem crcIt_lt {c : Nat} (h : c < 4294967296) : ∀ j, crcIt j c < 4294967296
  | 0 => h
  | j + 1 => crcStep_lt (crcIt_lt h j)

theorem crcFrom_lt : ∀ {xs : List Int} {c : Nat}, By xs → c < 4294967296 → crcFrom c xs < 4294967296
  | [], _, _, h => h
  | x :: xs, c, hb, h => by
    have h1 := hb x (by simp)
    exact crcFrom_lt (xs := xs) (fun y hy => hb y (by simp [hy])) (crcIt_lt (xor_lt32 h (by omega)) 8)

theorem sumN_lt (xs : List Int) : sumN xs < 4294967296 := by unfold sumN; omega

theorem crcFrom_snoc (c : Nat) {xs : List Int} {k : Nat} (h : k < xs.length) : crcFrom c (xs.take (k + 1)) = crcIt 8 (crcFrom c (xs.take k) ^^^ (xs.getD k 0).toNat) := by
  unfold crcFrom
  rw [take_snoc h, List.foldl_append]
  rfl

theorem By.take {xs : List Int} (h : By xs) (k : Nat) : By (xs.take k) := fun x hx => h x (List.mem_of_mem_take hx)

theorem xor_u32_nat (c x : Nat) (hc : c < 4294967296) (hx : x < 4294967296) : bits .xor .u32 (c : Int) (x : Int) = ((c ^^^ x : Nat) : Int) := u32_xor_nat c x hc hx

theorem and_one_32 (c : Nat) (hc : c < 4294967296) : bits .and .u32 (c : Int) 1 = ((c % 2 : Nat) : Int) := by
  rw [show (1 : Int) = ((1 : Nat) : Int) from rfl, u32_and_nat c 1 hc (by omega), nat_mask1]

theorem step_u32 (c : Nat) (hc : c < 4294967296) : bits .xor .u32 ((c : Int) / 2) (2197175160 * bits .and .u32 (c : Int) 1 % 4294967296) = (crcStep c : Int) := by
  rw [and_one_32 c hc]
  unfold crcStep
  by_cases h : c % 2 = 1
  · rw [if_pos h, h, show 2197175160 * ((1 : Nat) : Int) % 4294967296 = ((2197175160 : Nat) : Int) by omega, show (c : Int) / 2 = ((c / 2 : Nat) : Int) by omega]
    exact xor_u32_nat _ _ (by omega) (by omega)
  · rw [if_neg h, show c % 2 = 0 by omega, show 2197175160 * ((0 : Nat) : Int) % 4294967296 = ((0 : Nat) : Int) by omega, show (c : Int) / 2 = ((c / 2 : Nat) : Int) by omega]
    rw [xor_u32_nat _ _ (by omega) (by omega), Nat.xor_zero]

theorem ones32 : BitVec.ofInt 32 IntKind.u32.max = BitVec.allOnes 32 := by decide +kernel

theorem not_u32 (c : Nat) (hc : c < 4294967296) : bits .xor .u32 IntKind.u32.max (c : Int) = ((4294967295 - c : Nat) : Int) := by
  show IntKind.u32.wrap ((BitVec.ofInt 32 IntKind.u32.max ^^^ BitVec.ofInt 32 (c : Int)).toNat : Int) = _
  rw [ones32, BitVec.xor_comm, BitVec.xor_allOnes, BitVec.toNat_not, ofInt_u32 c hc, IntKind.wrap_u32']
  omega

theorem ret_int32 {k : IntKind} {a b : Int} (h : a = b) : Ending.returned (.int k a) = .returned (.int k b) := by rw [h]

theorem step_odd (c : Nat) (hc : c < 4294967296) (h : c % 2 = 1) : bits .xor .u32 ((c : Int) / 2) 2197175160 = (crcStep c : Int) := by
  unfold crcStep
  rw [if_pos h, show (c : Int) / 2 = ((c / 2 : Nat) : Int) by omega]
  exact xor_u32_nat _ 2197175160 (by omega) (by omega)

theorem step_even (c : Nat) (h : c % 2 ≠ 1) : (c : Int) / 2 = (crcStep c : Int) := by
  unfold crcStep
  rw [if_neg h]
  omega

end Go.Proofs.YtphdbpljgilcgaaDoor.M
