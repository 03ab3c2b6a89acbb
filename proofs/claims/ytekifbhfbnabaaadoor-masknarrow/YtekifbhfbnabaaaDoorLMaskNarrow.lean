/-
  Own text: the walk of the law MaskNarrow.
-/
import Derived.Test.YtekifbhfbnabaaaDoorKSgn
import Derived.Test.YtekifbhfbnabaaaDoorOpen
namespace Go.Proofs.YtekifbhfbnabaaaDoor.M
open Go.ChangeShapes Go.WideShapes Go.ChangeAt Go.RowKit

theorem wrap_i8' (n : Int) : IntKind.i8.wrap n = if 128 ≤ n % 256 then n % 256 - 256 else n % 256 := by simp [IntKind.wrap, IntKind.bits, IntKind.signed]

theorem wrap_i16' (n : Int) : IntKind.i16.wrap n = if 32768 ≤ n % 65536 then n % 65536 - 65536 else n % 65536 := by simp [IntKind.wrap, IntKind.bits, IntKind.signed]

theorem narrow8 (n : Int) : sgn (IntKind.u64.wrap n).toNat 8 = IntKind.i8.wrap n := by
  unfold sgn
  rw [IntKind.wrap_u64, wrap_i8', show (2 : Nat) ^ (8 - 1) = 128 from rfl, show (2 : Nat) ^ 8 = 256 from rfl]
  split <;> split <;> omega

theorem narrow16 (n : Int) : sgn (IntKind.u64.wrap n).toNat 16 = IntKind.i16.wrap n := by
  unfold sgn
  rw [IntKind.wrap_u64, wrap_i16', show (2 : Nat) ^ (16 - 1) = 32768 from rfl, show (2 : Nat) ^ 16 = 65536 from rfl]
  split <;> split <;> omega

theorem narrow32 (n : Int) : sgn (IntKind.u64.wrap n).toNat 32 = wrap32 n := by
  unfold sgn wrap32
  rw [IntKind.wrap_u64, show (2 : Nat) ^ (32 - 1) = 2147483648 from rfl, show (2 : Nat) ^ 32 = 4294967296 from rfl]
  split <;> omega

theorem rsigned_int (n : Int) (b : Nat) (w : World) (h1 : 1 ≤ b) (h2 : b ≤ 64) :
    Calls Tryd.prog 6 #[.int .u64 (IntKind.u64.wrap n), .int .i64 b] w fun e w' => e = .returned (.int .i64 (sgn (IntKind.u64.wrap n).toNat b)) ∧ Below w.heap.size w w' := by
  have h0 : 0 ≤ IntKind.u64.wrap n ∧ IntKind.u64.wrap n < 18446744073709551616 := by rw [IntKind.wrap_u64]; omega
  have h := rsigned_any (IntKind.u64.wrap n).toNat b w (by omega) h1 h2
  rw [Int.toNat_of_nonneg h0.1] at h
  exact h

set_option maxRecDepth 20000 in
theorem walk_MaskNarrow (w : World) (hT : Tab w) (n : Int) (_hn : (Lit.int .i64 n).wf = true) :
    Calls Tryd.prog 4 #[.int .i64 n] w fun e w' => e = .returned (.bool true) ∧ Below w.heap.size w w' := by
  have c0 := narrow_any n w
  have c1 : ∀ W, Calls Tryd.prog 6 #[.int .u64 (IntKind.u64.wrap n), .int .i64 8] W fun e w' => e = .returned (.int .i64 (IntKind.i8.wrap n)) ∧ Below W.heap.size W w' := fun W => by
    have h := rsigned_int n 8 W (by decide) (by decide)
    rw [narrow8] at h
    exact h
  have c2 : ∀ W, Calls Tryd.prog 6 #[.int .u64 (IntKind.u64.wrap n), .int .i64 16] W fun e w' => e = .returned (.int .i64 (IntKind.i16.wrap n)) ∧ Below W.heap.size W w' := fun W => by
    have h := rsigned_int n 16 W (by decide) (by decide)
    rw [narrow16] at h
    exact h
  have c3 : ∀ W, Calls Tryd.prog 6 #[.int .u64 (IntKind.u64.wrap n), .int .i64 32] W fun e w' => e = .returned (.int .i64 (wrap32 n)) ∧ Below W.heap.size W w' := fun W => by
    have h := rsigned_int n 32 W (by decide) (by decide)
    rw [narrow32] at h
    exact h
  have b1 : -128 ≤ IntKind.i8.wrap n ∧ IntKind.i8.wrap n ≤ 127 := by rw [wrap_i8']; split <;> omega
  have b2 : -32768 ≤ IntKind.i16.wrap n ∧ IntKind.i16.wrap n ≤ 32767 := by rw [wrap_i16']; split <;> omega
  have b3 : -2147483648 ≤ wrap32 n ∧ wrap32 n ≤ 2147483647 := by unfold wrap32; omega
  generalize IntKind.i8.wrap n = z1 at c0 c1 b1
  generalize IntKind.i16.wrap n = z2 at c0 c2 b2
  generalize wrap32 n = z3 at c0 c3 b3
  go_enter Tryd.func4, Tryd.ntmps4
  go_wp2_with fail
  refine c0.mono ?_
  rintro e w1 ⟨rfl, hw⟩
  subst hw
  go_wp2_with fail
  refine (c1 _).mono ?_
  rintro e w2 ⟨rfl, hb2⟩
  go_wp2_with fail
  refine (c2 _).mono ?_
  rintro e w3 ⟨rfl, hb3⟩
  have hb3' := hb2.trans (hb3.mono hb2.size)
  go_wp2_with fail
  refine (c3 _).mono ?_
  rintro e w4 ⟨rfl, hb4⟩
  have hb4' := hb3'.trans (hb4.mono hb3'.size)
  have hT4 := hT.below hb4'
  go_wp2_with fail
  refine (awake_any _ hT4).mono ?_
  rintro e w5 ⟨rfl, hb5⟩
  have hb5' := hb4'.trans (hb5.mono hb4'.size)
  go_wp2_with fail
  go_ret
  exact ⟨rfl, hb5'⟩

end Go.Proofs.YtekifbhfbnabaaaDoor.M
