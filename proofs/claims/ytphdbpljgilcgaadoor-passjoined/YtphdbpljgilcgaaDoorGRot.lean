/-
  Own text: contracts of the library's rotation, of the reference's turning, and of the stirring.
-/
import Derived.Test.YtphdbpljgilcgaaDoorProg
import Derived.Test.YtphdbpljgilcgaaDoorGArr
namespace Go.Proofs.YtphdbpljgilcgaaDoor.M
open Go.ChangeShapes Go.WideShapes Go.ChangeAt Go.RowKit

theorem ret_int {k : IntKind} {x y : Int} (h : x = y) : (Ending.returned (.int k x)) = .returned (.int k y) := by rw [h]

theorem ret_bool {x y : Bool} (h : x = y) : (Ending.returned (.bool x)) = .returned (.bool y) := by rw [h]

theorem and31 (n : Nat) (h : n ≤ 16) : bits .and .u64 (n : Int) 31 = (n : Int) := by
  rw [u64_and _ _ (by omega) (by omega) (by omega) (by omega)]
  have e : ((31 : Int).toNat) = 2 ^ 5 - 1 := rfl
  rw [e, Nat.and_two_pow_sub_one_eq_mod]
  omega

theorem wrap_add32 (a b : Nat) : IntKind.u32.wrap ((a : Int) + (b : Int)) = (((a + b) % 4294967296 : Nat) : Int) := by
  rw [IntKind.wrap_u32']
  omega

theorem pow_cast (t : Nat) : (2 : Int) ^ t = ((2 ^ t : Nat) : Int) := by rw [Int.natCast_pow]; rfl

set_option maxRecDepth 20000 in
theorem rot_core (x n z : Nat) (w : World) (_hx : x < 4294967296) (hn : n ≤ 16) (h1 : bits .and .u64 (n : Int) 31 = (n : Int))
    (h2 : bits .or .u32 (IntKind.u32.wrap ((x : Int) * 2 ^ n)) ((x : Int) / 2 ^ (32 - n)) = (z : Int)) :
    Calls Tryd.prog 53 #[.int .u32 x, .int .i64 n] w fun r w' => r = .returned (.int .u32 z) ∧ w' = w := by
  have H2 : Hid (bits .or .u32 (IntKind.u32.wrap ((x : Int) * 2 ^ n)) ((x : Int) / 2 ^ (32 - n)) = (z : Int)) := h2
  clear h2
  go_enter Tryd.func53, Tryd.ntmps53
  go_wp2
  go_ret
  exact ⟨ret_int H2.out, rfl⟩

theorem rot_any (x n : Nat) (w : World) (hx : x < 4294967296) (hn : n ≤ 16) :
    Calls Tryd.prog 53 #[.int .u32 x, .int .i64 n] w fun r w' => r = .returned (.int .u32 (turnN n x)) ∧ w' = w := by
  refine rot_core x n _ w hx hn (and31 n hn) ?_
  have e1 : IntKind.u32.wrap ((x : Int) * 2 ^ n) = ((x * 2 ^ n % 4294967296 : Nat) : Int) := by
    rw [IntKind.wrap_u32', pow_cast, ← Int.natCast_mul, Int.natCast_emod]
    rfl
  have e2 : (x : Int) / 2 ^ (32 - n) = ((x / 2 ^ (32 - n) : Nat) : Int) := by
    rw [pow_cast, Int.natCast_ediv]
  rw [e1, e2, u32_or_nat _ _ (Nat.mod_lt _ (by decide)) (Nat.lt_of_le_of_lt (Nat.div_le_self _ _) hx), turn_or hx n hn]

end Go.Proofs.YtphdbpljgilcgaaDoor.M
