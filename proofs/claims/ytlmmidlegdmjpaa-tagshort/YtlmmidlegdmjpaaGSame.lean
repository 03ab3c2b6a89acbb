/-
  Own text: the contract of Same.
-/
import Derived.Test.YtlmmidlegdmjpaaGEq
namespace Go.Proofs.Ytlmmidlegdmjpaa.M
open Go.ChangeShapes Go.WideShapes Go.ChangeAt Go.RowKit

/-- All in which the first so many are unlike. -/
def unl (xs ys : List Int) : Nat → Nat
  | 0 => 0
  | k + 1 => unl xs ys k ||| ((xs.getD k 0).toNat ^^^ (ys.getD k 0).toNat)

theorem unl_lt {xs ys : List Int} (hx : Byt xs) (hy : Byt ys) : ∀ k, unl xs ys k < 256
  | 0 => by show 0 < 256; decide
  | k + 1 => by
    have h1 := hx.get k
    have h2 := hy.get k
    exact Nat.or_lt_two_pow (n := 8) (unl_lt hx hy k) (Nat.xor_lt_two_pow (n := 8) (by omega) (by omega))

theorem xor_zero_iff {a b : Nat} : a ^^^ b = 0 ↔ a = b := by
  constructor
  · intro h
    have h2 : a ^^^ b ^^^ b = 0 ^^^ b := by rw [h]
    rwa [Nat.xor_assoc, Nat.xor_self, Nat.xor_zero, Nat.zero_xor] at h2
  · intro h
    rw [h, Nat.xor_self]

theorem unl_zero {xs ys : List Int} (hx : Byt xs) (hy : Byt ys) : ∀ k, unl xs ys k = 0 ↔ ∀ i, i < k → xs.getD i 0 = ys.getD i 0
  | 0 => by simp [unl]
  | k + 1 => by
    have h1 := hx.get k
    have h2 := hy.get k
    show unl xs ys k ||| ((xs.getD k 0).toNat ^^^ (ys.getD k 0).toNat) = 0 ↔ _
    rw [Nat.or_eq_zero_iff, unl_zero hx hy k, xor_zero_iff]
    constructor
    · rintro ⟨h3, h4⟩ i hi
      rcases Nat.lt_or_ge i k with h | h
      · exact h3 i h
      · obtain rfl : i = k := by omega
        omega
    · intro h
      have h5 := h k (by omega)
      exact ⟨fun i hi => h i (by omega), by omega⟩

theorem unl_same {xs ys : List Int} (hx : Byt xs) (hy : Byt ys) (lx : xs.length = 16) (ly : ys.length = 16) : (((unl xs ys 16 : Nat) : Int) == 0) = decide (xs = ys) := by
  rw [Bool.eq_iff_iff, beq_iff_eq, decide_eq_true_iff]
  have h := unl_zero hx hy 16
  constructor
  · intro h0
    have h1 := h.1 (by omega)
    apply List.ext_getElem (by omega)
    intro i h2 h3
    have := h1 i (by omega)
    rw [List.getD_eq_getElem?_getD, List.getD_eq_getElem?_getD, List.getElem?_eq_getElem h2, List.getElem?_eq_getElem h3] at this
    exact this
  · intro h0
    have := h.2 (fun i _ => by rw [h0])
    omega

theorem two_box (w : World) (xs ys : List Int) :
    ArrI 25 .u8 ((w.alloc (.cells (nums .u8 xs) 25)).alloc (.cells (nums .u8 ys) 25)) w.heap.size xs ∧
    ArrI 25 .u8 ((w.alloc (.cells (nums .u8 xs) 25)).alloc (.cells (nums .u8 ys) 25)) (w.heap.size + 1) ys ∧
    Below w.heap.size w ((w.alloc (.cells (nums .u8 xs) 25)).alloc (.cells (nums .u8 ys) 25)) := by
  have h3 : (w.alloc (.cells (nums .u8 xs) 25)).heap.size = w.heap.size + 1 := by simp
  have h1 : ArrI 25 .u8 ((w.alloc (.cells (nums .u8 xs) 25)).alloc (.cells (nums .u8 ys) 25)) _ ys := ArrI.new 25 .u8 _ ys
  rw [h3] at h1
  exact ⟨(ArrI.new _ .u8 w xs).alloc _, h1, ((Below.refl _ _).alloc (Nat.le_refl _) _).alloc (by simp) _⟩

end Go.Proofs.Ytlmmidlegdmjpaa.M
