/-
  Own text: contracts of the library's rotation, of the reference's turning, and of the stirring.
-/
import Derived.Test.YtlmmidlegdmjpaaProg
import Derived.Test.YtlmmidlegdmjpaaGArr
namespace Go.Proofs.Ytlmmidlegdmjpaa.M
open Go.ChangeShapes Go.WideShapes Go.ChangeAt Go.RowKit

theorem ret_int {k : IntKind} {x y : Int} (h : x = y) : (Ending.returned (.int k x)) = .returned (.int k y) := by rw [h]

theorem ret_bool {x y : Bool} (h : x = y) : (Ending.returned (.bool x)) = .returned (.bool y) := by rw [h]

theorem and31 (n : Nat) (h : n ≤ 16) : bits .and .u64 (n : Int) 31 = (n : Int) := by
  rw [u64_and _ _ (by omega) (by omega) (by omega) (by omega)]
  have e : ((31 : Int).toNat) = 2 ^ 5 - 1 := rfl
  rw [e, Nat.and_two_pow_sub_one_eq_mod]
  omega

theorem wrap_add32 (a b : Nat) : IntKind.u32.wrap ((a : Int) + (b : Int)) = (((a + b) % 4294967296 : Nat) : Int) := by
  rw [IntKind.wrap_u32']
  omega

theorem pow_cast (t : Nat) : (2 : Int) ^ t = ((2 ^ t : Nat) : Int) := by rw [Int.natCast_pow]; rfl

set_option maxRecDepth 20000 in
theorem rot_core (x n z : Nat) (w : World) (_hx : x < 4294967296) (hn : n ≤ 16) (h1 : bits .and .u64 (n : Int) 31 = (n : Int))
    (h2 : bits .or .u32 (IntKind.u32.wrap ((x : Int) * 2 ^ n)) ((x : Int) / 2 ^ (32 - n)) = (z : Int)) :
    Calls Try.prog 24 #[.int .u32 x, .int .i64 n] w fun r w' => r = .returned (.int .u32 z) ∧ w' = w := by
  have H2 : Hid (bits .or .u32 (IntKind.u32.wrap ((x : Int) * 2 ^ n)) ((x : Int) / 2 ^ (32 - n)) = (z : Int)) := h2
  clear h2
  go_enter Try.func24, Try.ntmps24
  go_wp2
  go_ret
  exact ⟨ret_int H2.out, rfl⟩

theorem rot_any (x n : Nat) (w : World) (hx : x < 4294967296) (hn : n ≤ 16) :
    Calls Try.prog 24 #[.int .u32 x, .int .i64 n] w fun r w' => r = .returned (.int .u32 (turnN n x)) ∧ w' = w := by
  refine rot_core x n _ w hx hn (and31 n hn) ?_
  have e1 : IntKind.u32.wrap ((x : Int) * 2 ^ n) = ((x * 2 ^ n % 4294967296 : Nat) : Int) := by
    rw [IntKind.wrap_u32', pow_cast, ← Int.natCast_mul, Int.natCast_emod]
    rfl
  have e2 : (x : Int) / 2 ^ (32 - n) = ((x / 2 ^ (32 - n) : Nat) : Int) := by
    rw [pow_cast, Int.natCast_ediv]
  rw [e1, e2, u32_or_nat _ _ (Nat.mod_lt _ (by decide)) (Nat.lt_of_le_of_lt (Nat.div_le_self _ _) hx), turn_or hx n hn]

set_option maxRecDepth 20000 in
theorem turn_any (x n : Nat) (w : World) (hx : x < 4294967296) (hn : n ≤ 16) :
    Calls Try.prog 23 #[.int .u32 x, .int .i64 n] w fun r w' => r = .returned (.int .u32 (turnN n x)) ∧ w' = w := by
  go_enter Try.func23, Try.ntmps23
  go_wp2_with fail
  go_loop [0, 6] (fun v i => ∃ k : Nat, k ≤ n ∧ i = .int .i64 k ∧ v = .int .u32 (turnN k x)) (fun _ i => n - (intOf i).toNat)
  case atStart => exact ⟨0, by omega, rfl, rfl⟩
  case round =>
    obtain ⟨k, hk, rfl, rfl⟩ := hrel
    by_cases h : k < n
    · have hlt := turnN_lt hx k
      have HS : Hid (turnN (k + 1) x = 2 * turnN k x % 4294967296 + turnN k x / 2147483648) := rfl
      generalize turnN k x = v at hlt HS
      have hkn : (k : Int) < n := by omega
      go_wp2
      go_round
      case rel => exact ⟨k + 1, by omega, by go_num, by rw [HS.out]; simp only [Value.int.injEq, true_and]; omega⟩
      case measure => simp [intOf]; omega
    · obtain rfl : k = n := by omega
      go_wp2
      go_ret
      exact ⟨rfl, rfl⟩

end Go.Proofs.Ytlmmidlegdmjpaa.M
