/-
  Own text: keys of eight bytes as numbers, and back: contracts of number and eight.
-/
import Derived.Test.YtphdbpljgilcgaaDoorHShort
import Derived.WalkSpells
namespace Go.Proofs.YtphdbpljgilcgaaDoor.M
open Go.ChangeShapes Go.WideShapes Go.ChangeAt Go.RowKit
set_option linter.unusedSimpArgs false

theorem infoKy : (Tryd.prog.info? 34).map (·.size) = some 8 := by kernel_rfl

theorem infoE8 : (Tryd.prog.info? 33).map (·.size) = some 8 := by kernel_rfl

theorem index_key (xs : List Int) (k : Nat) (w : World) (hl : xs.length = 8) (hk : k < 8) : (Instr.index 34 (.agg (nums .u8 xs)) (.int .i64 k)).run Tryd.prog w = .ok (.int .u8 (xs.getD k 0)) w := by
  have hu := Tryd.underlying34
  have hg := nums_get .u8 xs (i := k) (by omega)
  simp [Instr.index, run_underlying hu, asIntOf, go_sem]
  rw [if_pos hk, hg]
  simp

set_option maxRecDepth 20000 in
set_option maxHeartbeats 1000000 in
theorem num8_any (k : List Int) (hl : k.length = 8) (hb : Byt k) (w : World) :
    Calls Tryd.prog 14 #[.agg (nums .u8 k)] w fun e w' => e = .returned (.int .u64 (shN k 8)) ∧ Below w.heap.size w w' := by
  have hY : ArrI 34 .u8 (w.alloc (.cells (nums .u8 k) 34)) w.heap.size k := ArrI.new _ .u8 w _
  have hba := below_alloc w (.cells (nums .u8 k) 34)
  have hi1 := info_nums .u8 k infoKy hl
  have hix := fun (j : Nat) (W : World) (hj : j < 8) => index_key k j W hl hj
  go_enter Tryd.func14, Tryd.ntmps14
  go_wp2_with (refine wpList_load_row rfl 34 _ rfl w.heap.size rfl _ _ _ _ hY Tryd.underlying34 rfl hi1 ?_)
  go_loopw [3, 7] (fun v i wr => ∃ j : Nat, j ≤ 8 ∧ i = .int .i64 j ∧ v = .int .u64 (shN k j) ∧ Below w.heap.size w wr) (fun _ i _ => 8 - (intOf i).toNat)
  case atStart => exact ⟨0, by omega, rfl, rfl, hba⟩
  case round =>
    clear hY hba
    obtain ⟨j, hj, rfl, rfl, hbb⟩ := hrel
    by_cases h : j < 8
    · have hx := hix j wr h
      have h2 := hb.get j
      have hlt := shN_lt hb j
      have hp : 256 ^ j ≤ 256 ^ 7 := Nat.pow_le_pow_right (by decide) (by omega)
      have hlt2 : shN k j < 72057594037927936 := Nat.lt_of_lt_of_le hlt hp
      obtain ⟨x, ex⟩ : ∃ x : Nat, k.getD j 0 = (x : Int) := ⟨(k.getD j 0).toNat, by omega⟩
      have HS : Hid (shN k (j + 1) = 256 * shN k j + x) := by
        show 256 * shN k j + (k.getD j 0).toNat = _
        rw [ex, Int.toNat_natCast]
      rw [ex] at hx h2
      have e1 := sh_step (n := shN k j) (x := x) hlt2 (by omega)
      generalize shN k j = v at HS hlt2 e1
      clear hlt hp ex hix
      go_wp2_with fail
      go_roundw
      case rel => exact ⟨j + 1, by omega, by go_num, by rw [HS.out]; simp only [Value.int.injEq, true_and]; omega, hbb⟩
      case measure => simp [intOf]; omega
    · obtain rfl : j = 8 := by omega
      go_wp2_with fail
      go_ret
      exact ⟨rfl, hbb⟩

end Go.Proofs.YtphdbpljgilcgaaDoor.M
