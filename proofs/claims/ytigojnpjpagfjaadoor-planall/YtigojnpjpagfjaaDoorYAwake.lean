/-
  Own text: the example of the statements over chains.
-/
import Derived.Test.YtigojnpjpagfjaaDoorYSame2
namespace Go.Proofs.YtigojnpjpagfjaaDoor.M
open Go.ChangeShapes Go.WideShapes Go.ChangeAt Go.RowKit

theorem ex_first : firstR [⟨2, 1, false⟩, ⟨0, 0, false⟩] = .ok (1, [⟨0, 0, false⟩, ⟨2, 1, false⟩]) := by kernel_rfl
theorem ex_join : joinR 1 [⟨0, 0, false⟩, ⟨2, 1, false⟩] ⟨1, 0, false⟩ = .ok (2, [⟨0, 0, false⟩, ⟨1, 0, true⟩, ⟨2, 1, false⟩]) := by kernel_rfl
theorem ex_drop : cutR (fun m => m.n == 0) 2 [⟨0, 0, false⟩, ⟨1, 0, true⟩, ⟨2, 1, false⟩] = .ok (3, [⟨2, 1, false⟩]) := by kernel_rfl
theorem ex_head : endM 1 [⟨0, 0, false⟩, ⟨2, 1, false⟩] 0 = 0 := by decide +kernel
theorem ex_next : offM 2 [⟨0, 0, false⟩, ⟨1, 0, true⟩, ⟨2, 1, false⟩] 0 1 = 1 := by decide +kernel
theorem ex_tail : endM 2 [⟨0, 0, false⟩, ⟨1, 0, true⟩, ⟨2, 1, false⟩] (((3 : Nat) : Int) - 1) = 2 := by decide +kernel

theorem rdm_two (w : World) (x y : Mb) : RdM (w.alloc (.cells #[.int .i64 x.n, .int .i64 x.s, .bool x.f, .int .i64 y.n, .int .i64 y.s, .bool y.f] 45)) (some ⟨w.heap.size, 0, none⟩) 2 2 [x, y] := by
  refine ⟨rfl, Nat.le_refl _, (fun e => by cases e), fun _ => ⟨_, 0, rfl, fun i hi => ?_⟩⟩
  match i, hi with
  | 0, _ => exact ⟨by simp, by simp, by simp⟩
  | 1, _ => exact ⟨by simp, by simp, by simp⟩

theorem rdm_one (w : World) (x : Mb) : RdM (w.alloc (.cells #[.int .i64 x.n, .int .i64 x.s, .bool x.f] 45)) (some ⟨w.heap.size, 0, none⟩) 1 1 [x] := by
  refine ⟨rfl, Nat.le_refl _, (fun e => by cases e), fun _ => ⟨_, 0, rfl, fun i hi => ?_⟩⟩
  match i, hi with
  | 0, _ => exact ⟨by simp, by simp, by simp⟩

end Go.Proofs.YtigojnpjpagfjaaDoor.M
