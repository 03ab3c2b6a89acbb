/-
  Own text: one of eight slices.
-/
import Derived.Test.YtcgpdaalehgjdaaDLast
namespace Go.Proofs.Ytcgpdaalehgjdaa.M
open Go.ChangeShapes Go.WideShapes Go.ChangeAt Go.RowKit

theorem index8 (F : Nat → Sl) {I : Nat} (hI : I < 8) (W : World) : (Instr.index 50 (.agg (ei8 F).toArray) (.int .i64 (I : Int))).run Try.prog W = .ok (.slice (F I).p (F I).n (F I).c) W := by
  match I, hI with
  | 0, _ => go_simp; rfl
  | 1, _ => go_simp; rfl
  | 2, _ => go_simp; rfl
  | 3, _ => go_simp; rfl
  | 4, _ => go_simp; rfl
  | 5, _ => go_simp; rfl
  | 6, _ => go_simp; rfl
  | 7, _ => go_simp; rfl
  | k + 8, h => exact absurd h (by omega)

end Go.Proofs.Ytcgpdaalehgjdaa.M
