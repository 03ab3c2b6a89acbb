/-
  Own text: contracts of four words as bytes.
-/
import Derived.Test.YtphdbpljgilcgaaDoorGWords
namespace Go.Proofs.YtphdbpljgilcgaaDoor.M
open Go.ChangeShapes Go.WideShapes Go.ChangeAt Go.RowKit

/-- The bytes that have been laid. -/
def byL (s : Nat × Nat × Nat × Nat) (k : Nat) : List Int := (List.range 16).map fun i => if i < k then (qB s).getD i 0 else 0

theorem byL_len (s : Nat × Nat × Nat × Nat) (k : Nat) : (byL s k).length = 16 := by simp [byL]
theorem byL_zero (s : Nat × Nat × Nat × Nat) : byL s 0 = List.replicate 16 0 := rfl
theorem byL_end (s : Nat × Nat × Nat × Nat) : byL s 16 = qB s := rfl

theorem byL_set (s : Nat × Nat × Nat × Nat) (k : Nat) : (byL s k).set k ((qB s).getD k 0) = byL s (k + 1) := by
  apply List.ext_getElem
  · simp [byL]
  · intro i h1 h2
    rw [List.getElem_set]
    simp only [byL, List.getElem_map, List.getElem_range]
    by_cases h : k = i
    · subst h
      rw [if_pos rfl, if_pos (by omega)]
    · rw [if_neg h]
      by_cases h3 : i < k
      · rw [if_pos h3, if_pos (by omega)]
      · rw [if_neg h3, if_neg (by omega)]

/-- The k-th byte is cut out of its word. -/
theorem qB_get (s : Nat × Nat × Nat × Nat) : ∀ k, k < 16 → (qB s).getD k 0 = ((qI s).getD (k / 4) 0) / 2 ^ (k % 4 * 8) % 256 := by
  intro k hk
  match k, hk with
  | 0, _ => simp [qB, qI]
  | 1, _ => simp [qB, qI]
  | 2, _ => simp [qB, qI]
  | 3, _ => simp [qB, qI]
  | 4, _ => simp [qB, qI]
  | 5, _ => simp [qB, qI]
  | 6, _ => simp [qB, qI]
  | 7, _ => simp [qB, qI]
  | 8, _ => simp [qB, qI]
  | 9, _ => simp [qB, qI]
  | 10, _ => simp [qB, qI]
  | 11, _ => simp [qB, qI]
  | 12, _ => simp [qB, qI]
  | 13, _ => simp [qB, qI]
  | 14, _ => simp [qB, qI]
  | 15, _ => simp [qB, qI]
  | n + 16, h => omega

/-- What a new array of sixteen bytes holds. -/
theorem zero16 : nums .u8 (List.replicate 16 0) = #[.int .u8 0, .int .u8 0, .int .u8 0, .int .u8 0, .int .u8 0, .int .u8 0, .int .u8 0, .int .u8 0, .int .u8 0, .int .u8 0, .int .u8 0, .int .u8 0, .int .u8 0, .int .u8 0, .int .u8 0, .int .u8 0] := rfl

theorem three_newB (w : World) (xs : List Int) (t : TypeId) :
    ArrI t .u32 (((w.alloc (.cells (nums .u32 xs) t)).alloc (.cells (nums .u8 (List.replicate 16 0)) 22)).alloc (.cells (nums .u8 (List.replicate 16 0)) 22)) w.heap.size xs ∧
    ArrI 22 .u8 (((w.alloc (.cells (nums .u32 xs) t)).alloc (.cells (nums .u8 (List.replicate 16 0)) 22)).alloc (.cells (nums .u8 (List.replicate 16 0)) 22)) (w.heap.size + 1) (List.replicate 16 0) ∧
    ArrI 22 .u8 (((w.alloc (.cells (nums .u32 xs) t)).alloc (.cells (nums .u8 (List.replicate 16 0)) 22)).alloc (.cells (nums .u8 (List.replicate 16 0)) 22)) (w.heap.size + 1 + 1) (List.replicate 16 0) ∧
    Below w.heap.size w (((w.alloc (.cells (nums .u32 xs) t)).alloc (.cells (nums .u8 (List.replicate 16 0)) 22)).alloc (.cells (nums .u8 (List.replicate 16 0)) 22)) := by
  have s1 : (w.alloc (.cells (nums .u32 xs) t)).heap.size = w.heap.size + 1 := by simp
  have s2 : ((w.alloc (.cells (nums .u32 xs) t)).alloc (.cells (nums .u8 (List.replicate 16 0)) 22)).heap.size = w.heap.size + 1 + 1 := by simp
  have h1 : ArrI 22 .u8 ((w.alloc (.cells (nums .u32 xs) t)).alloc (.cells (nums .u8 (List.replicate 16 0)) 22)) _ _ := ArrI.new 22 .u8 _ (List.replicate 16 0)
  rw [s1] at h1
  have h2 : ArrI 22 .u8 (((w.alloc (.cells (nums .u32 xs) t)).alloc (.cells (nums .u8 (List.replicate 16 0)) 22)).alloc (.cells (nums .u8 (List.replicate 16 0)) 22)) _ _ := ArrI.new 22 .u8 _ (List.replicate 16 0)
  rw [s2] at h2
  exact ⟨((ArrI.new _ .u32 w xs).alloc _).alloc _, h1.alloc _, h2, (((Below.refl _ _).alloc (Nat.le_refl _) _).alloc (by simp) _).alloc (by simp; omega) _⟩

set_option maxRecDepth 20000 in
set_option maxHeartbeats 1000000 in
theorem bytes_any (s : Nat × Nat × Nat × Nat) (w : World) (hs : Qd s) :
    Calls Tryd.prog 42 #[.agg (qA s)] w fun r w' => r = .returned (.agg (nums .u8 (qB s))) ∧ Below w.heap.size w w' := by
  obtain ⟨hA0, hZ0, hK0, hb0⟩ := three_newB w (qI s) 76
  rw [← qA_nums, qA, zero16] at hA0 hZ0 hK0 hb0
  unfold qA
  go_enter Tryd.func42, Tryd.ntmps42
  go_wp2_with fail
  go_loopw [5] (fun i wr => ∃ k : Nat, k ≤ 16 ∧ i = .int .i64 k ∧ ArrI 22 .u8 wr (w.heap.size + 1 + 1) (byL s k) ∧ ArrI 22 .u8 wr (w.heap.size + 1) (List.replicate 16 0) ∧ ArrI 76 .u32 wr w.heap.size (qI s) ∧ Below w.heap.size w wr) (fun i _ => 16 - (intOf i).toNat)
  case atStart => exact ⟨0, by omega, rfl, hK0, hZ0, hA0, hb0⟩
  case round =>
    clear hA0 hZ0 hK0 hb0
    obtain ⟨k, hk, rfl, hB, hZ, hA, hb⟩ := hrel
    by_cases h : k < 16
    · have hst := qB_get s k h
      have hc := hA.cell (i := k / 4) (show k / 4 < 4 by omega)
      have hd := hB.cell (i := k) (by rw [byL_len]; exact h)
      have hf := hB.free k
      have hB2 := hB.set k ((qB s).getD k 0)
      rw [byL_set] at hB2
      obtain ⟨x, hx, hxl⟩ := qI_word hs (k / 4) (by omega)
      rw [hx] at hc hst
      obtain ⟨q, hq⟩ : ∃ q : Nat, q = k / 4 := ⟨_, rfl⟩
      obtain ⟨r, hr⟩ : ∃ r : Nat, r = k % 4 * 8 := ⟨_, rfl⟩
      have hq1 : (k : Int) / 4 = (q : Int) := by omega
      have hr1 : (k : Int) % 4 * 8 = (r : Int) := by omega
      have hq2 : (q : Int) < 4 := by omega
      have hr2 : r < 32 := by omega
      rw [← hr] at hst
      rw [← hq] at hc
      have hst2 := hst.symm
      generalize (qB s).getD k 0 = z at hst2 hB2
      generalize (byL s k).getD k 0 = old at hd
      have hZ3 := hZ.other (w.heap.size + 1 + 1) k (.int .u8 z) (by omega)
      have hA3 := hA.other (w.heap.size + 1 + 1) k (.int .u8 z) (by omega)
      have hb3 := hb.setCell (p := ⟨w.heap.size + 1 + 1, k, none⟩) (show w.heap.size ≤ w.heap.size + 1 + 1 by omega) (.int .u8 z)
      clear hA hZ hb hB hx hq hr hst
      have hk16 : (k : Int) < 16 := by omega
      go_wp2_with fail
      generalize wr.setCell ⟨w.heap.size + 1 + 1, k, none⟩ (.int .u8 z) = W1 at hA3 hZ3 hB2 hb3 ⊢
      go_roundw
      case rel => exact ⟨k + 1, by omega, by go_num, hB2, hZ3, hA3, hb3⟩
      case measure => simp [intOf]; omega
    · obtain rfl : k = 16 := by omega
      rw [byL_end] at hB
      have hi := info_nums .u8 (qB s) infoB rfl
      have hz : (nums .u8 (List.replicate 16 0)).size = (nums .u8 (qB s)).size := rfl
      have hZ2 := hZ.setRow (qB s)
      have hb2 := hb.trans (below_setRow wr (w.heap.size + 1) (nums .u8 (qB s)) (by omega))
      go_wp2_with (first | refine wpList_load_row rfl 22 _ rfl (w.heap.size + 1 + 1) rfl _ _ _ _ hB Tryd.underlying22 rfl hi ?_ | refine wpList_store_row rfl 22 _ _ rfl (w.heap.size + 1) (nums .u8 (qB s)) rfl rfl _ _ hZ hi hz (nums_one _ _) ?_)
      exact bodyPost_ret (results_cell_row (p := 2) rfl _ _ (w.heap.size + 1) _ _ _ _ rfl hZ2 Tryd.underlying22 rfl hi) rfl ⟨rfl, hb2⟩

end Go.Proofs.YtphdbpljgilcgaaDoor.M
