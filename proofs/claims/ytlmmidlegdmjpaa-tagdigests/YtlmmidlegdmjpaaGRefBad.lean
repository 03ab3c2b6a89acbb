/-
  Own text: the contract of the reference's digest by a key of another length; of slices.Clone and bytes.Equal.
-/
import Derived.Test.YtlmmidlegdmjpaaGRefOf
namespace Go.Proofs.Ytlmmidlegdmjpaa.M
open Go.ChangeShapes Go.WideShapes Go.ChangeAt Go.RowKit

set_option maxRecDepth 20000 in
set_option maxHeartbeats 1000000 in
theorem refof_bad (kp : Option Addr) (kn kc : Nat) (p : Option Addr) (n c : Nat) (w : World) (hk : kn ≠ 16) :
    Calls Try.prog 9 #[.slice kp kn kc, .slice p n c] w fun r w' => r = .returned (.tuple #[.agg (nums .u8 (List.replicate 16 0)), .int .i64 1]) ∧ Below w.heap.size w w' := by
  obtain ⟨hZ4, hZ6, hb0⟩ := two_box w (List.replicate 16 0) (List.replicate 16 0)
  have hi := info_nums .u8 (List.replicate 16 0) infoB rfl
  have hZ1 := hZ4.setRow (List.replicate 16 0)
  have hb1 := hb0.trans (below_setRow _ w.heap.size (nums .u8 (List.replicate 16 0)) (Nat.le_refl _))
  rw [zero16] at hZ4 hZ6
  have hd1 : ((kn : Int) != 16) = true := by simp; omega
  have hd2 : (kn != 16) = true := by simpa using hk
  go_enter Try.func9, Try.ntmps9
  go_wp2_with (first | refine wpList_load_row rfl 25 _ rfl (w.heap.size + 1) rfl _ _ _ _ hZ6 Try.underlying25 rfl hi ?_ | refine wpList_store_row rfl 25 _ _ rfl w.heap.size (nums .u8 (List.replicate 16 0)) rfl rfl _ _ hZ4 hi rfl (nums_one _ _) ?_)
  exact bodyPost_ret (results_row_tmp (p := 4) (u := 5) rfl _ _ w.heap.size _ _ _ rfl hZ1 Try.underlying25 rfl hi) rfl ⟨rfl, hb1⟩

end Go.Proofs.Ytlmmidlegdmjpaa.M
