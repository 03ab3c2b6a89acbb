/-
  Own text: the contract of the reference's Short, whatever its digest is.
-/
import Derived.Test.YtlmmidlegdmjpaaGShort
namespace Go.Proofs.Ytlmmidlegdmjpaa.M
open Go.ChangeShapes Go.WideShapes Go.ChangeAt Go.RowKit

set_option maxRecDepth 20000 in
set_option maxHeartbeats 1000000 in
theorem refshort_core (kv dv : Value) (w : World) (D : List Int) (E : Int) (hlD : D.length = 16) (hbD : Byt D)
    (cO : Calls Try.prog 9 #[kv, dv] w fun r w' => r = .returned (.tuple #[.agg (nums .u8 D), .int .i64 E]) ∧ Below w.heap.size w w') :
    Calls Try.prog 12 #[kv, dv] w fun r w' => r = .returned (.tuple #[.int .u64 (shN D 8), .int .i64 E]) ∧ Below w.heap.size w w' := by
  have hi1 := info_nums .u8 D infoB hlD
  go_enter Try.func12, Try.ntmps12
  go_wp2_with fail
  refine cO.mono ?_
  rintro e w3 ⟨rfl, hbb4⟩
  clear cO
  have hY : ArrI 25 .u8 (w3.alloc (.cells (nums .u8 (List.replicate 16 0)) 25)) w3.heap.size (List.replicate 16 0) := ArrI.new _ .u8 w3 _
  have hbb5 := (hbb4.alloc hbb4.size (.cells (nums .u8 (List.replicate 16 0)) 25)).trans (below_setRow _ w3.heap.size (nums .u8 D) hbb4.size)
  have hzD : (nums .u8 (List.replicate 16 0)).size = (nums .u8 D).size := by rw [nums_size, nums_size, hlD]; rfl
  have hY5 := hY.setRow D
  rw [zero16] at hY hY5 hbb5
  go_wp2_with (refine wpList_store_row rfl 25 _ _ rfl w3.heap.size (nums .u8 D) rfl rfl _ _ hY hi1 hzD (nums_one _ _) ?_)
  generalize (w3.alloc _).setRow w3.heap.size (nums .u8 D) = W5 at hY5 hbb5 ⊢
  clear hY
  go_loopw [8, 16] (fun v i wr => ∃ k : Nat, k ≤ 8 ∧ i = .int .i64 k ∧ v = .int .u64 (shN D k) ∧ ArrI 25 .u8 wr w3.heap.size D ∧ Below w.heap.size w wr) (fun _ i _ => 8 - (intOf i).toNat)
  case atStart => exact ⟨0, by omega, rfl, rfl, hY5, hbb5⟩
  case round =>
    clear hY5 hbb5
    obtain ⟨k, hk, rfl, rfl, hY5, hbb5⟩ := hrel
    by_cases h : k < 8
    · have hc := hY5.cell (i := k) (by omega)
      have h2 := hbD.get k
      have hlt := shN_lt hbD k
      have hp : 256 ^ k ≤ 256 ^ 7 := Nat.pow_le_pow_right (by decide) (by omega)
      have hlt2 : shN D k < 72057594037927936 := Nat.lt_of_lt_of_le hlt hp
      obtain ⟨x, ex⟩ : ∃ x : Nat, D.getD k 0 = (x : Int) := ⟨(D.getD k 0).toNat, by omega⟩
      have HS : Hid (shN D (k + 1) = 256 * shN D k + x) := by
        show 256 * shN D k + (D.getD k 0).toNat = _
        rw [ex, Int.toNat_natCast]
      rw [ex] at hc h2
      generalize shN D k = v at HS hlt2
      clear hlt hp ex
      go_wp2_with fail
      go_roundw
      case rel => exact ⟨k + 1, by omega, by go_num, by rw [HS.out]; simp only [Value.int.injEq, true_and]; omega, hY5, hbb5⟩
      case measure => simp [intOf]; omega
    · obtain rfl : k = 8 := by omega
      go_wp2_with fail
      exact bodyPost_ret (results_tmp2 rfl _ _ _) rfl ⟨rfl, hbb5⟩

end Go.Proofs.Ytlmmidlegdmjpaa.M
