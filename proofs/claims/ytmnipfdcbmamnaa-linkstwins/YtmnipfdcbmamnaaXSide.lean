/-
  Own text: the document's set of 64 answers out of a word (after the mask's text).
-/
import Derived.Test.YtmnipfdcbmamnaaXRef6
namespace Go.Proofs.Ytmnipfdcbmamnaa.M
open Go.ChangeShapes Go.WideShapes Go.ChangeAt Go.RowKit

theorem below_setRow (w : World) (g : Nat) (cs : Array Value) {B : Nat} (h : B ≤ g) : Below B w (w.setRow g cs) := by
  refine ⟨rfl, rfl, rfl, by simp [World.setRow], fun k hk => ?_⟩
  unfold World.setRow
  simp only [Array.getElem?_modify]
  rw [if_neg (by omega)]

/-- The answers of yes or no as cells. -/
def bools (bs : List Bool) : Array Value := (bs.map Value.bool).toArray

theorem bools_size (bs : List Bool) : (bools bs).size = bs.length := by simp [bools]

theorem bools_one (bs : List Bool) : (bools bs).all (·.oneCell') = true := by
  rw [Array.all_eq_true]
  intro i hi
  simp [bools, Value.oneCell']

/-- A block that holds such an array. -/
def Arr (w : World) (g : Nat) (bs : List Bool) : Prop := w.heap[g]? = some (.cells (bools bs) 72 (0, 0))

theorem Arr.cell {w : World} {g : Nat} {bs : List Bool} (h : Arr w g bs) {i : Nat} (hi : i < bs.length) : w.cell? ⟨g, i, none⟩ = some (.bool (bs.getD i false)) := by
  rw [cell_of_row w g i _ _ _ h, bools, List.getElem?_toArray, List.getElem?_map, List.getD_eq_getElem?_getD, List.getElem?_eq_getElem hi]
  rfl

theorem Arr.free {w : World} {g : Nat} {bs : List Bool} (h : Arr w g bs) (i : Nat) : w.frozen? ⟨g, i, none⟩ = false := frozen_of_row w g i _ _ h

theorem Arr.lt {w : World} {g : Nat} {bs : List Bool} (h : Arr w g bs) : g < w.heap.size := (Array.getElem?_eq_some_iff.1 h).1

theorem Arr.set {w : World} {g : Nat} {bs : List Bool} (h : Arr w g bs) (i : Nat) (b : Bool) : Arr (w.setCell ⟨g, i, none⟩ (.bool b)) g (bs.set i b) := by
  have h1 := heap_setCell_same w g i _ _ (.bool b) h
  unfold Arr
  rw [h1]
  congr 2
  unfold bools
  rw [List.map_set, List.setIfInBounds_toArray]

theorem Arr.below {w w' : World} {g : Nat} {bs : List Bool} (h : Arr w g bs) (hb : Below w.heap.size w w') : Arr w' g bs := by
  unfold Arr
  rw [hb.block g h.lt]
  exact h

theorem Arr.setRow {w : World} {g : Nat} {bs : List Bool} (h : Arr w g bs) (cs : List Bool) : Arr (w.setRow g (bools cs)) g cs := by
  unfold Arr World.setRow
  rw [Array.getElem?_modify, if_pos rfl, h]
  rfl

theorem info_set (bs : List Bool) (h : bs.length = 64) : (Try.prog.info? 72).map (·.size) = some (bools bs).size := by
  rw [bools_size, h]
  kernel_rfl

/-- The bits of a word, as far as they have been gone through. -/
def fromL (x k : Nat) : List Bool := (List.range 64).map fun i => decide (i < k) && x.testBit i

/-- The bits of a word. -/
def bitL (x : Nat) : List Bool := (List.range 64).map fun i => x.testBit i

theorem fromL_len (x k : Nat) : (fromL x k).length = 64 := by simp [fromL]
theorem bitL_len (x : Nat) : (bitL x).length = 64 := by simp [bitL]

theorem bitL_get (x : Nat) {i : Nat} (h : i < 64) : (bitL x).getD i false = x.testBit i := by
  rw [List.getD_eq_getElem?_getD, bitL, List.getElem?_map, List.getElem?_range h]
  rfl

theorem fromL_zero (x : Nat) : fromL x 0 = List.replicate 64 false := by
  apply List.ext_getElem
  · simp [fromL]
  · intro i h1 h2
    rw [List.getElem_replicate]
    simp only [fromL, List.getElem_map]
    rw [decide_eq_false (by omega)]
    rfl

theorem fromL_end (x : Nat) : fromL x 64 = bitL x := by
  unfold fromL bitL
  apply List.map_congr_left
  intro i hi
  rw [decide_eq_true (by simpa using hi)]
  rfl

theorem fromL_set (x k : Nat) : (fromL x k).set k (x.testBit k) = fromL x (k + 1) := by
  apply List.ext_getElem
  · simp [fromL]
  · intro i h1 h2
    rw [List.getElem_set]
    simp only [fromL, List.getElem_map, List.getElem_range]
    by_cases h : k = i
    · subst h; simp
    · rw [if_neg h]
      congr 1
      simp only [decide_eq_decide]
      omega

theorem bit_test (x k : Nat) : (((x / 2 ^ k : Nat) : Int) % 2 == 1) = x.testBit k := by
  rw [Nat.testBit_eq_decide_div_mod_eq]
  generalize x / 2 ^ k = y
  by_cases h : y % 2 = 1
  · rw [decide_eq_true h, beq_iff_eq]; omega
  · rw [decide_eq_false h, beq_eq_false_iff_ne]; omega

theorem half_pow (x k : Nat) : ((x / 2 ^ k : Nat) : Int) / 2 = ((x / 2 ^ (k + 1) : Nat) : Int) := by
  rw [Nat.pow_succ, ← Nat.div_div_eq_div_mul]
  omega

set_option maxRecDepth 20000 in
set_option maxHeartbeats 400000 in
theorem from_any (x : Nat) (w : World) (h : x < 18446744073709551616) : Calls Try.prog 34 #[.int .u64 x] w fun e w' => e = .returned (.agg (bools (bitL x))) ∧ Below w.heap.size w w' := by
  go_enter Try.func34, Try.ntmps34
  go_wp2_with fail
  go_loopw [0, 5] (fun v i wr => ∃ k : Nat, k ≤ 64 ∧ i = .int .i64 k ∧ v = .int .u64 ((x / 2 ^ k : Nat) : Int) ∧ Arr wr (w.heap.size + 1) (fromL x k) ∧ Arr wr w.heap.size (List.replicate 64 false) ∧ Below w.heap.size w wr) (fun _ i _ => 64 - (intOf i).toNat)
  case atStart => exact ⟨0, by omega, rfl, by simp, by rw [fromL_zero]; exact heap_alloc2_new _ _ _, heap_alloc2_old _ _ _, ((Below.refl _ _).alloc (Nat.le_refl _) _).alloc (by simp) _⟩
  case round =>
    obtain ⟨k, hk, rfl, rfl, hA, hZ, hb⟩ := hrel
    by_cases h64 : k < 64
    · have hc := hA.cell (i := k) (by rw [fromL_len]; exact h64)
      have hf := hA.free k
      have hA2 := hA.set k (x.testBit k)
      rw [fromL_set] at hA2
      have hZ2 : Arr (wr.setCell ⟨w.heap.size + 1, k, none⟩ (.bool (x.testBit k))) w.heap.size (List.replicate 64 false) := by
        unfold Arr
        rw [Below.heap_setCell _ _ _ _ (by simp)]
        exact hZ
      have hb2 : Below w.heap.size w (wr.setCell ⟨w.heap.size + 1, k, none⟩ (.bool (x.testBit k))) := hb.setCell (by simp) _
      have ht := bit_test x k
      have hh := half_pow x k
      have hlt : x / 2 ^ k < 18446744073709551616 := Nat.lt_of_le_of_lt (Nat.div_le_self _ _) h
      generalize x.testBit k = tb at hA2 hZ2 hb2 ht
      obtain ⟨y2, hy2⟩ : ∃ y, y = x / 2 ^ (k + 1) := ⟨_, rfl⟩
      rw [← hy2] at hh
      have HY : Hid (y2 = x / 2 ^ (k + 1)) := hy2
      clear hy2
      generalize x / 2 ^ k = y at ht hh hlt
      clear hA hZ hb h
      go_wp2
      go_roundw
      case rel => exact ⟨k + 1, by omega, by go_num, by rw [HY.out], hA2, hZ2, hb2⟩
      case measure => simp [intOf]; omega
    · obtain rfl : k = 64 := by omega
      rw [fromL_end] at hA
      have hi := info_set (bitL x) (bitL_len x)
      have hZ2 := hZ.setRow (bitL x)
      have hb2 := hb.trans (below_setRow wr w.heap.size (bools (bitL x)) (Nat.le_refl _))
      go_wp2_with (first | refine wpList_load_row rfl 72 _ rfl (w.heap.size + 1) rfl _ _ _ _ hA Try.underlying72 rfl hi ?_ | refine wpList_store_row rfl 72 _ _ rfl w.heap.size _ rfl rfl _ _ hZ hi (by rw [bools_size, bools_size, bitL_len]; rfl) (bools_one _) ?_)
      exact bodyPost_ret (results_cell_row (p := 2) rfl _ _ w.heap.size _ _ _ _ rfl hZ2 Try.underlying72 rfl hi) rfl ⟨rfl, hb2⟩

end Go.Proofs.Ytmnipfdcbmamnaa.M
