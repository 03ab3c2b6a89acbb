/-
  Own text: contracts of mask's Signed, Narrow, Of, ones, At, Rank at what the statements' examples need.
-/
import Derived.Test.YtekifbhfbnabaaaDoorKAw
namespace Go.Proofs.YtekifbhfbnabaaaDoor.M
open Go.ChangeShapes Go.WideShapes Go.ChangeAt Go.RowKit

/-- The number with a sign that the lowest b bits of a word are. -/
def sgn (x b : Nat) : Int := if 2 ^ (b - 1) ≤ x % 2 ^ b then ((x % 2 ^ b : Nat) : Int) - ((2 ^ b : Nat) : Int) else ((x % 2 ^ b : Nat) : Int)

theorem pow_split {b : Nat} (h : b ≤ 64) : 2 ^ b * 2 ^ (64 - b) = 18446744073709551616 := by
  rw [← Nat.pow_add, show b + (64 - b) = 64 by omega]

theorem pow_half {b : Nat} (h : 1 ≤ b) : 2 ^ b = 2 * 2 ^ (b - 1) := by
  rw [← Nat.pow_succ']
  congr 1
  omega

theorem sgn_bits (x b : Nat) (h1 : 1 ≤ b) (h2 : b ≤ 64) : wrap64 (IntKind.u64.wrap ((x : Int) * 2 ^ (64 - b))) / 2 ^ (64 - b) = sgn x b := by
  have hs := pow_split h2
  have hh := pow_half h1
  have e1 : (2 : Int) ^ (64 - b) = ((2 ^ (64 - b) : Nat) : Int) := by rw [Int.natCast_pow]; rfl
  have hm : x * 2 ^ (64 - b) % 18446744073709551616 = x % 2 ^ b * 2 ^ (64 - b) := by rw [← hs, Nat.mul_mod_mul_right]
  have hlt : x % 2 ^ b < 2 ^ b := Nat.mod_lt _ (Nat.pow_pos (by decide))
  have hp : 0 < 2 ^ (64 - b) := Nat.pow_pos (by decide)
  rw [e1, IntKind.wrap_u64, ← Int.natCast_mul]
  unfold sgn
  rw [show ((x * 2 ^ (64 - b) : Nat) : Int) % 18446744073709551616 = ((x * 2 ^ (64 - b) % 18446744073709551616 : Nat) : Int) by rw [Int.natCast_emod]; rfl, hm]
  generalize x % 2 ^ b = m at hlt ⊢
  generalize 2 ^ (b - 1) = H at hh ⊢
  generalize 2 ^ b = B at hs hh hlt ⊢
  generalize 2 ^ (64 - b) = U at hs hp ⊢
  subst hh
  have hU : (U : Int) ≠ 0 := by omega
  have hHU : H * U = 9223372036854775808 := by
    rw [Nat.mul_assoc] at hs
    omega
  by_cases hc : H ≤ m
  · rw [if_pos hc]
    have h3 : 9223372036854775808 ≤ m * U := by rw [← hHU]; exact Nat.mul_le_mul hc (Nat.le_refl _)
    have h4 : m * U < 18446744073709551616 := by rw [← hs]; exact Nat.mul_lt_mul_of_pos_right hlt hp
    have h5 : wrap64 ((m * U : Nat) : Int) = ((m : Int) - ((2 * H : Nat) : Int)) * (U : Int) := by
      rw [Int.sub_mul, ← Int.natCast_mul, ← Int.natCast_mul, hs]
      unfold wrap64
      generalize m * U = q at h3 h4 ⊢
      omega
    rw [h5, Int.mul_ediv_cancel _ hU]
  · rw [if_neg hc]
    have h3 : m * U < 9223372036854775808 := by rw [← hHU]; exact Nat.mul_lt_mul_of_pos_right (by omega) hp
    have h5 : wrap64 ((m * U : Nat) : Int) = (m : Int) * (U : Int) := by
      rw [← Int.natCast_mul]
      unfold wrap64
      generalize m * U = q at h3 ⊢
      omega
    rw [h5, Int.mul_ediv_cancel _ hU]

set_option maxRecDepth 20000 in
theorem signed_any (x b : Nat) (w : World) (h1 : 1 ≤ b) (h2 : b ≤ 64) :
    Calls Tryd.prog 5 #[.int .u64 x, .int .i64 b] w fun e w' => e = .returned (.int .i64 (sgn x b)) ∧ w' = w := by
  have hs := sgn_bits x b h1 h2
  generalize sgn x b = z at hs ⊢
  go_enter Tryd.func5, Tryd.ntmps5
  go_wp2
  go_ret
  exact ⟨rfl, rfl⟩

set_option maxRecDepth 20000 in
theorem signed_none (x : Int) (b : Int) (w : World) (h : b < 1 ∨ 64 < b) :
    Calls Tryd.prog 5 #[.int .u64 x, .int .i64 b] w fun e w' => e = .returned (.int .i64 0) ∧ w' = w := by
  rcases h with h | h
  · go_enter Tryd.func5, Tryd.ntmps5
    go_wp2
    go_ret
    exact ⟨rfl, rfl⟩
  · go_enter Tryd.func5, Tryd.ntmps5
    go_wp2
    go_ret
    exact ⟨rfl, rfl⟩

set_option maxRecDepth 20000 in
theorem narrow_any (n : Int) (w : World) : Calls Tryd.prog 8 #[.int .i64 n] w fun e w' => e = .returned (.tuple #[.int .i8 (IntKind.i8.wrap n), .int .i16 (IntKind.i16.wrap n), .int .i32 (wrap32 n)]) ∧ w' = w := by
  go_enter Tryd.func8, Tryd.ntmps8
  go_wp2
  go_ret3
  exact ⟨rfl, rfl⟩

/-- The set of numbers. -/
def ofN (l : List Int) : Nat := l.foldl (fun s n => s ||| bitN n) 0

theorem or_lt64 {a b : Nat} (ha : a < 18446744073709551616) (hb : b < 18446744073709551616) : a ||| b < 18446744073709551616 := Nat.or_lt_two_pow (n := 64) ha hb

theorem ofN_snoc {l : List Int} {k : Nat} (h : k < l.length) : ofN (l.take (k + 1)) = ofN (l.take k) ||| bitN (l.getD k 0) := by
  unfold ofN
  rw [take_snoc h, List.foldl_append]
  rfl

theorem ofN_lt (l : List Int) : ofN l < 18446744073709551616 := by
  have key : ∀ (l : List Int) (s : Nat), s < 18446744073709551616 → l.foldl (fun s n => s ||| bitN n) s < 18446744073709551616 := by
    intro l
    induction l with
    | nil => intro s h; exact h
    | cons x r ih => intro s h; exact ih _ (or_lt64 h (bitN_lt x))
  exact key l 0 (by decide)

set_option maxRecDepth 20000 in
theorem of_any (p : Option Addr) (n c : Nat) (ls : List Int) (w : World) (hr : Rd .i64 w p n c ls) (hn : n ≤ 1099511627776) :
    Calls Tryd.prog 11 #[.slice p n c] w fun e w' => e = .returned (.int .u64 (ofN ls)) ∧ w' = w := by
  have hxl := hr.len
  go_enter Tryd.func11, Tryd.ntmps11
  go_wp2
  go_loop [3, 8] (fun v i => ∃ k : Nat, k ≤ n ∧ i = .int .i64 k ∧ v = .int .u64 (ofN (ls.take k))) (fun _ i => n - (intOf i).toNat)
  case atStart => exact ⟨0, Nat.zero_le _, rfl, rfl⟩
  case round =>
    obtain ⟨k, hk, rfl, rfl⟩ := hrel
    by_cases h : k < n
    · obtain ⟨b, o, rfl, hc⟩ := hr.cells (by omega)
      have hcx := hc k h
      have HS : Hid (ofN (ls.take (k + 1)) = ofN (ls.take k) ||| bitN (ls.getD k 0)) := ofN_snoc (by omega)
      have hor := u64_or_nat _ _ (ofN_lt (ls.take k)) (bitN_lt (ls.getD k 0))
      have hB := bit_any (ls.getD k 0) w
      clear hc hr hxl
      generalize ofN (ls.take k) = s at HS hor
      generalize bitN (ls.getD k 0) = z2 at HS hor hB
      generalize ls.getD k 0 = z at hcx hB
      go_wp2_with (go_at_call 17; refine hB.mono ?_; rintro e w1 ⟨rfl, hw⟩; subst hw)
      go_round
      case rel => exact ⟨k + 1, by omega, by go_num, by rw [HS.out]⟩
      case measure => simp [intOf]; omega
    · obtain rfl : k = n := by omega
      have e1 : ls.take k = ls := List.take_of_length_le (by omega)
      rw [e1]
      clear hr
      go_wp2
      go_ret
      exact ⟨rfl, rfl⟩

set_option maxRecDepth 20000 in
theorem rank_ex (w : World) : Calls Tryd.prog 16 #[.int .u64 33, .int .i64 5] w fun e w' => e = .returned (.int .i64 1) ∧ w' = w := by
  go_enter Tryd.func16, Tryd.ntmps16
  go_wp2
  go_ret
  exact ⟨ret_int (by decide +kernel), rfl⟩

set_option maxRecDepth 20000 in
theorem without_ex (w : World) : Calls Tryd.prog 24 #[.int .u64 33, .int .i64 0] w fun e w' => e = .returned (.int .u64 32) ∧ w' = w := by
  go_enter Tryd.func24, Tryd.ntmps24
  go_wp2
  go_ret
  exact ⟨ret_int (by decide +kernel), rfl⟩

theorem tz33 : tz 33 = 0 := by decide +kernel
theorem tz32 : tz 32 = 5 := by decide +kernel

set_option maxRecDepth 20000 in
theorem at_ex (w : World) (ht : Tab w) : Calls Tryd.prog 15 #[.int .u64 33, .int .i64 1] w fun e w' => e = .returned (.int .i64 5) ∧ w' = w := by
  have c1 := len33 w
  have c2 : Calls Tryd.prog 13 #[.int .u64 33] w fun e w' => e = .returned (.int .i64 0) ∧ w' = w := by
    have h := low_any 33 w (by decide) (by decide) ht
    rw [tz33] at h
    exact h
  have c3 : Calls Tryd.prog 13 #[.int .u64 32] w fun e w' => e = .returned (.int .i64 5) ∧ w' = w := by
    have h := low_any 32 w (by decide) (by decide) ht
    rw [tz32] at h
    exact h
  have c4 := without_ex w
  clear ht
  go_enter Tryd.func15, Tryd.ntmps15
  go_wp2_with fail
  refine c1.mono ?_
  rintro e w1 ⟨rfl, hw⟩
  subst hw
  go_wp2_with fail
  go_loop [0, 14] (fun v i => (v = .int .u64 33 ∧ i = .int .i64 0) ∨ (v = .int .u64 32 ∧ i = .int .i64 1)) (fun _ i => 1 - (intOf i).toNat)
  case atStart => exact Or.inl ⟨rfl, rfl⟩
  case round =>
    rcases hrel with ⟨rfl, rfl⟩ | ⟨rfl, rfl⟩
    · go_wp2_with fail
      refine c2.mono ?_
      rintro e w2 ⟨rfl, hw⟩
      subst hw
      go_wp2_with fail
      refine c4.mono ?_
      rintro e w2 ⟨rfl, hw⟩
      subst hw
      go_wp2_with fail
      go_round
      case rel => exact Or.inr ⟨rfl, rfl⟩
      case measure => simp [intOf]
    · go_wp2_with fail
      refine c3.mono ?_
      rintro e w2 ⟨rfl, hw⟩
      subst hw
      go_wp2_with fail
      go_ret
      exact ⟨rfl, rfl⟩

end Go.Proofs.YtekifbhfbnabaaaDoor.M
