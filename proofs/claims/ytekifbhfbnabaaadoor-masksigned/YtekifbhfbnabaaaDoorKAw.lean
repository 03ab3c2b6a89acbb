/-
  Own text: contracts of mask's functions at the statements' examples.
-/
import Derived.Test.YtekifbhfbnabaaaDoorRows
import Derived.Test.YtekifbhfbnabaaaDoorMem
import Derived.Test.YtekifbhfbnabaaaDoorPure
import Derived.Lib.TrailingZeros
import Derived.Deep.QuietTactic
import Derived.BigQuiet
import Derived.WalkSmall
import Derived.WalkSpells
namespace Go.Proofs.YtekifbhfbnabaaaDoor.M
open Go.ChangeShapes Go.WideShapes Go.ChangeAt Go.RowKit

theorem ret_int {k : IntKind} {a b : Int} (h : a = b) : Ending.returned (.int k a) = .returned (.int k b) := by rw [h]

/-- The table of the library lies in the first block. -/
def Tab (w : World) : Prop := ∀ i, i < 64 → w.cell? ⟨0, i, none⟩ = some (.int .u8 ((Lib.deBruijn64tab.getD i 0 : Nat) : Int))

theorem Tab.pos {w : World} (h : Tab w) : 0 < w.heap.size := World.block_lt_of_cell? _ _ (h 0 (by decide))

theorem Tab.below {w w' : World} (h : Tab w) (hb : Below w.heap.size w w') : Tab w' := fun i hi => by
  rw [hb.cell (p := ⟨0, i, none⟩) h.pos]; exact h i hi

set_option maxRecDepth 20000 in
theorem len33 (w : World) : Calls Tryd.prog 23 #[.int .u64 33] w fun e w' => e = .returned (.int .i64 2) ∧ w' = w := by
  go_enter Tryd.func23, Tryd.ntmps23
  go_wp2
  go_ret
  exact ⟨ret_int (by decide +kernel), rfl⟩

/-- How many zero bits stand lowest. -/
def tz (x : Nat) : Nat := Lib.ctz 64 x

/-- Where the table is asked. -/
def tzAt (x : Nat) : Nat := 2 ^ tz x * 285870213051353865 % 18446744073709551616 / 288230376151711744

theorem tz_lt {x : Nat} (h0 : 0 < x) (h : x < 18446744073709551616) : tz x < 64 := (Lib.lowest_bit 64 x (by omega) h).2

theorem tz_at {x : Nat} (h0 : 0 < x) (h : x < 18446744073709551616) : tzAt x < 64 ∧ Lib.deBruijn64tab.getD (tzAt x) 0 = tz x := by
  have hk := tz_lt h0 h
  unfold tzAt
  generalize tz x = k at hk ⊢
  exact Lib.deBruijn64_at k hk

theorem tz_neg {x : Nat} (h0 : 0 < x) (h : x < 18446744073709551616) : IntKind.u64.wrap (-(x : Int)) = ((18446744073709551616 - x : Nat) : Int) := by rw [IntKind.wrap_u64]; omega

theorem tz_and {x : Nat} (h0 : 0 < x) (h : x < 18446744073709551616) : bits .and .u64 (x : Int) ((18446744073709551616 - x : Nat) : Int) = ((2 ^ tz x : Nat) : Int) := by
  have e2 : x &&& (18446744073709551616 - x) = 2 ^ tz x := (Lib.lowest_bit 64 x (by omega) h).1
  rw [u64_and_nat x _ h (by omega), e2]

theorem tz_mul (y : Nat) : IntKind.u64.wrap ((y : Int) * 285870213051353865) = ((y * 285870213051353865 % 18446744073709551616 : Nat) : Int) := by
  rw [IntKind.wrap_u64, Int.natCast_emod, Int.natCast_mul]
  rfl

theorem tz_div (m : Nat) : (m : Int) / 288230376151711744 = ((m / 288230376151711744 : Nat) : Int) := by
  rw [Int.natCast_ediv]
  rfl

set_option maxRecDepth 20000 in
theorem tz_core (x nx y m a k : Nat) (w : World) (hne : ((x : Int) == 0) = false) (h1 : IntKind.u64.wrap (-(x : Int)) = (nx : Int)) (h2 : bits .and .u64 (x : Int) (nx : Int) = (y : Int)) (h3 : IntKind.u64.wrap ((y : Int) * 285870213051353865) = (m : Int)) (h4 : (m : Int) / 288230376151711744 = (a : Int)) (ha : a < 64) (hc : w.cell? ⟨0, a, none⟩ = some (.int .u8 (k : Int))) (hk : k < 64) :
    Calls Tryd.prog 21 #[.int .u64 x] w fun e w' => e = .returned (.int .i64 k) ∧ w' = w := by
  go_enter Tryd.func21, Tryd.ntmps21
  go_wp2
  go_ret
  exact ⟨rfl, rfl⟩

theorem tz_any (x : Nat) (w : World) (h0 : 0 < x) (h : x < 18446744073709551616) (ht : Tab w) : Calls Tryd.prog 21 #[.int .u64 x] w fun e w' => e = .returned (.int .i64 (tz x)) ∧ w' = w := by
  obtain ⟨h1, h2⟩ := tz_at h0 h
  have hc := ht _ h1
  rw [h2] at hc
  exact tz_core x _ _ _ _ _ w (by simp; omega) (tz_neg h0 h) (tz_and h0 h) (tz_mul _) (tz_div _) h1 hc (tz_lt h0 h)

set_option maxRecDepth 20000 in
theorem low_any (x : Nat) (w : World) (h0 : 0 < x) (h : x < 18446744073709551616) (ht : Tab w) : Calls Tryd.prog 13 #[.int .u64 x] w fun e w' => e = .returned (.int .i64 (tz x)) ∧ w' = w := by
  have hT := tz_any x w h0 h ht
  have hne : ((x : Int) == 0) = false := by simp; omega
  generalize tz x = k at hT ⊢
  clear ht
  go_enter Tryd.func13, Tryd.ntmps13
  go_wp2_with (go_at_call 21; refine hT.mono ?_; rintro e w1 ⟨rfl, hw⟩; subst hw)
  go_ret
  exact ⟨rfl, rfl⟩

set_option maxRecDepth 20000 in
theorem low_none (w : World) : Calls Tryd.prog 13 #[.int .u64 0] w fun e w' => e = .returned (.int .i64 (-1)) ∧ w' = w := by
  go_enter Tryd.func13, Tryd.ntmps13
  go_wp2
  go_ret
  exact ⟨rfl, rfl⟩

set_option maxRecDepth 20000 in
theorem high33 (w : World) : Calls Tryd.prog 14 #[.int .u64 33] w fun e w' => e = .returned (.int .i64 5) ∧ w' = w := by
  go_enter Tryd.func14, Tryd.ntmps14
  go_wp2
  go_ret
  exact ⟨ret_int (by decide +kernel), rfl⟩

/-- One number as a set. -/
def bitN (n : Int) : Nat := if 0 ≤ n ∧ n < 64 then 2 ^ n.toNat else 0

theorem bitN_lt (n : Int) : bitN n < 18446744073709551616 := by
  unfold bitN
  split
  · next h =>
    have h2 : 2 ^ n.toNat ≤ 2 ^ 63 := Nat.pow_le_pow_right (by decide) (by omega)
    have h3 : (2 : Nat) ^ 63 < 18446744073709551616 := by decide
    omega
  · decide

theorem wrap_pow (n : Nat) (h : n < 64) : IntKind.u64.wrap (2 ^ n) = ((2 ^ n : Nat) : Int) := by
  have h2 : 2 ^ n ≤ 2 ^ 63 := Nat.pow_le_pow_right (by decide) (by omega)
  have h3 : (2 : Nat) ^ 63 < 18446744073709551616 := by decide
  rw [IntKind.wrap_u64, show (2 : Int) ^ n = ((2 ^ n : Nat) : Int) by rw [Int.natCast_pow]; rfl]
  generalize 2 ^ n = y at h2 ⊢
  omega

set_option maxRecDepth 20000 in
theorem bit_any (n : Int) (w : World) : Calls Tryd.prog 17 #[.int .i64 n] w fun e w' => e = .returned (.int .u64 (bitN n)) ∧ w' = w := by
  by_cases h : 0 ≤ n ∧ n < 64
  · have hb : bitN n = 2 ^ n.toNat := by unfold bitN; rw [if_pos h]
    rw [hb]
    obtain ⟨h1, h2⟩ := h
    obtain ⟨k, rfl⟩ := Int.eq_ofNat_of_zero_le h1
    have hw := wrap_pow k (by omega)
    clear hb
    go_enter Tryd.func17, Tryd.ntmps17
    go_wp2
    go_ret
    exact ⟨ret_int (by rw [Int.toNat_natCast, Int.natCast_pow]; rfl), rfl⟩
  · have hb : bitN n = 0 := by unfold bitN; rw [if_neg h]
    rw [hb]
    rcases (show n < 0 ∨ 64 ≤ n by omega) with h1 | h1
    · go_enter Tryd.func17, Tryd.ntmps17
      go_wp2
      go_ret
      exact ⟨rfl, rfl⟩
    · go_enter Tryd.func17, Tryd.ntmps17
      go_wp2
      go_ret
      exact ⟨rfl, rfl⟩

end Go.Proofs.YtekifbhfbnabaaaDoor.M
