/-
  Own text: the contract of Same.
-/
import Derived.Test.YtbbcondoenmapaeGEq
namespace Go.Proofs.Ytbbcondoenmapae.M
open Go.ChangeShapes Go.WideShapes Go.ChangeAt Go.RowKit

/-- All in which the first so many are unlike. -/
def unl (xs ys : List Int) : Nat → Nat
  | 0 => 0
  | k + 1 => unl xs ys k ||| ((xs.getD k 0).toNat ^^^ (ys.getD k 0).toNat)

theorem unl_lt {xs ys : List Int} (hx : Byt xs) (hy : Byt ys) : ∀ k, unl xs ys k < 256
  | 0 => by show 0 < 256; decide
  | k + 1 => by
    have h1 := hx.get k
    have h2 := hy.get k
    exact Nat.or_lt_two_pow (n := 8) (unl_lt hx hy k) (Nat.xor_lt_two_pow (n := 8) (by omega) (by omega))

theorem xor_zero_iff {a b : Nat} : a ^^^ b = 0 ↔ a = b := by
  constructor
  · intro h
    have h2 : a ^^^ b ^^^ b = 0 ^^^ b := by rw [h]
    rwa [Nat.xor_assoc, Nat.xor_self, Nat.xor_zero, Nat.zero_xor] at h2
  · intro h
    rw [h, Nat.xor_self]

theorem unl_zero {xs ys : List Int} (hx : Byt xs) (hy : Byt ys) : ∀ k, unl xs ys k = 0 ↔ ∀ i, i < k → xs.getD i 0 = ys.getD i 0
  | 0 => by simp [unl]
  | k + 1 => by
    have h1 := hx.get k
    have h2 := hy.get k
    show unl xs ys k ||| ((xs.getD k 0).toNat ^^^ (ys.getD k 0).toNat) = 0 ↔ _
    rw [Nat.or_eq_zero_iff, unl_zero hx hy k, xor_zero_iff]
    constructor
    · rintro ⟨h3, h4⟩ i hi
      rcases Nat.lt_or_ge i k with h | h
      · exact h3 i h
      · obtain rfl : i = k := by omega
        omega
    · intro h
      have h5 := h k (by omega)
      exact ⟨fun i hi => h i (by omega), by omega⟩

theorem unl_same {xs ys : List Int} (hx : Byt xs) (hy : Byt ys) (lx : xs.length = 16) (ly : ys.length = 16) : (((unl xs ys 16 : Nat) : Int) == 0) = decide (xs = ys) := by
  rw [Bool.eq_iff_iff, beq_iff_eq, decide_eq_true_iff]
  have h := unl_zero hx hy 16
  constructor
  · intro h0
    have h1 := h.1 (by omega)
    apply List.ext_getElem (by omega)
    intro i h2 h3
    have := h1 i (by omega)
    rw [List.getD_eq_getElem?_getD, List.getD_eq_getElem?_getD, List.getElem?_eq_getElem h2, List.getElem?_eq_getElem h3] at this
    exact this
  · intro h0
    have := h.2 (fun i _ => by rw [h0])
    omega

theorem two_box (w : World) (xs ys : List Int) :
    ArrI 25 .u8 ((w.alloc (.cells (nums .u8 xs) 25)).alloc (.cells (nums .u8 ys) 25)) w.heap.size xs ∧
    ArrI 25 .u8 ((w.alloc (.cells (nums .u8 xs) 25)).alloc (.cells (nums .u8 ys) 25)) (w.heap.size + 1) ys ∧
    Below w.heap.size w ((w.alloc (.cells (nums .u8 xs) 25)).alloc (.cells (nums .u8 ys) 25)) := by
  have h3 : (w.alloc (.cells (nums .u8 xs) 25)).heap.size = w.heap.size + 1 := by simp
  have h1 : ArrI 25 .u8 ((w.alloc (.cells (nums .u8 xs) 25)).alloc (.cells (nums .u8 ys) 25)) _ ys := ArrI.new 25 .u8 _ ys
  rw [h3] at h1
  exact ⟨(ArrI.new _ .u8 w xs).alloc _, h1, ((Below.refl _ _).alloc (Nat.le_refl _) _).alloc (by simp) _⟩

set_option maxRecDepth 20000 in
set_option maxHeartbeats 1000000 in
theorem same_any (xs ys : List Int) (w : World) (lx : xs.length = 16) (ly : ys.length = 16) (hx : Byt xs) (hy : Byt ys) :
    Calls Try.prog 13 #[.agg (nums .u8 xs), .agg (nums .u8 ys)] w fun r w' => r = .returned (.bool (decide (xs = ys))) ∧ Below w.heap.size w w' := by
  obtain ⟨hA0, hB0, hb0⟩ := two_box w xs ys
  go_enter Try.func13, Try.ntmps13
  go_wp2_with fail
  generalize ((w.alloc (.cells (nums .u8 xs) 25)).alloc (.cells (nums .u8 ys) 25)) = W0 at hA0 hB0 hb0 ⊢
  go_loopw [5, 7] (fun u i wr => ∃ k : Nat, k ≤ 16 ∧ i = .int .i64 k ∧ u = .int .u8 (unl xs ys k) ∧ ArrI 25 .u8 wr w.heap.size xs ∧ ArrI 25 .u8 wr (w.heap.size + 1) ys ∧ Below w.heap.size w wr) (fun _ i _ => 16 - (intOf i).toNat)
  case atStart => exact ⟨0, by omega, rfl, rfl, hA0, hB0, hb0⟩
  case round =>
    clear hA0 hB0 hb0
    obtain ⟨k, hk, rfl, rfl, hA, hB, hb⟩ := hrel
    by_cases h : k < 16
    · have hc := hA.cell (i := k) (by omega)
      have hd := hB.cell (i := k) (by omega)
      have h1 := hx.get k
      have h2 := hy.get k
      obtain ⟨x, ex⟩ : ∃ x : Nat, xs.getD k 0 = (x : Int) := ⟨(xs.getD k 0).toNat, by omega⟩
      obtain ⟨y, ey⟩ : ∃ y : Nat, ys.getD k 0 = (y : Int) := ⟨(ys.getD k 0).toNat, by omega⟩
      have hu := unl_lt hx hy k
      have HS : Hid (unl xs ys (k + 1) = unl xs ys k ||| (x ^^^ y)) := by
        show unl xs ys k ||| ((xs.getD k 0).toNat ^^^ (ys.getD k 0).toNat) = _
        rw [ex, ey, Int.toNat_natCast, Int.toNat_natCast]
      rw [ex] at hc h1
      rw [ey] at hd h2
      have e1 := u8_xor_nat x y (by omega) (by omega)
      have e2 := u8_or_nat (unl xs ys k) (x ^^^ y) hu (Nat.xor_lt_two_pow (n := 8) (by omega) (by omega))
      generalize unl xs ys k = u at hu HS e2
      clear hx hy ex ey h1 h2
      go_wp2_with fail
      go_quiet (fail)
      have hA2 := hA.below (below_drewN (Below.refl _ _) nq)
      have hB2 := hB.below (below_drewN (Below.refl _ _) nq)
      have hb2 := below_drewN hb nq
      generalize wr.drewN nq = W1 at hA2 hB2 hb2 ⊢
      clear hA hB hb hc hd
      go_wp2_with fail
      go_roundw
      case rel => exact ⟨k + 1, by omega, by go_num, by rw [HS.out], hA2, hB2, hb2⟩
      case measure => simp [intOf]; omega
    · obtain rfl : k = 16 := by omega
      have HS : Hid ((((unl xs ys 16 : Nat) : Int) == 0) = decide (xs = ys)) := unl_same hx hy lx ly
      clear hA hB hx hy
      go_wp2_with fail
      go_ret
      exact ⟨ret_bool HS.out, hb⟩

end Go.Proofs.Ytbbcondoenmapae.M
