/-
  Own text: a number's eight bytes, the highest first: the contract of eight.
-/
import Derived.Test.YtphdbpljgilcgaaDoorHNum
namespace Go.Proofs.YtphdbpljgilcgaaDoor.M
open Go.ChangeShapes Go.WideShapes Go.ChangeAt Go.RowKit
set_option linter.unusedSimpArgs false

/-- The bytes of a number. -/
def eigL (n : Nat) : List Int := (List.range 8).map fun i => ((n / 2 ^ (56 - 8 * i) % 256 : Nat) : Int)

/-- The bytes that have been laid. -/
def eigP (n k : Nat) : List Int := (List.range 8).map fun i => if i < k then (eigL n).getD i 0 else 0

theorem eigL_len (n : Nat) : (eigL n).length = 8 := by simp [eigL]
theorem eigP_len (n k : Nat) : (eigP n k).length = 8 := by simp [eigP]
theorem eigP_zero (n : Nat) : eigP n 0 = List.replicate 8 0 := rfl
theorem eigP_end (n : Nat) : eigP n 8 = eigL n := rfl

theorem eigL_get (n : Nat) {k : Nat} (hk : k < 8) : (eigL n).getD k 0 = ((n / 2 ^ (56 - 8 * k) % 256 : Nat) : Int) := by
  rw [List.getD_eq_getElem?_getD, eigL, List.getElem?_map, List.getElem?_range hk]
  rfl

theorem eigL_by (n : Nat) : Byt (eigL n) := fun x hx => by
  unfold eigL at hx
  obtain ⟨i, _, rfl⟩ := List.mem_map.1 hx
  have : n / 2 ^ (56 - 8 * i) % 256 < 256 := Nat.mod_lt _ (by decide)
  omega

theorem eigP_set (n k : Nat) : (eigP n k).set k ((eigL n).getD k 0) = eigP n (k + 1) := by
  apply List.ext_getElem
  · simp [eigP]
  · intro i h1 h2
    rw [List.getElem_set]
    simp only [eigP, List.getElem_map, List.getElem_range]
    by_cases h : k = i
    · subst h
      rw [if_pos rfl, if_pos (by omega)]
    · rw [if_neg h]
      by_cases h3 : i < k
      · rw [if_pos h3, if_pos (by omega)]
      · rw [if_neg h3, if_neg (by omega)]

theorem zero8 : nums .u8 (List.replicate 8 0) = #[.int .u8 0, .int .u8 0, .int .u8 0, .int .u8 0, .int .u8 0, .int .u8 0, .int .u8 0, .int .u8 0] := rfl

theorem two_new8 (w : World) (t : TypeId) :
    ArrI t .u8 ((w.alloc (.cells (nums .u8 (List.replicate 8 0)) t)).alloc (.cells (nums .u8 (List.replicate 8 0)) t)) w.heap.size (List.replicate 8 0) ∧
    ArrI t .u8 ((w.alloc (.cells (nums .u8 (List.replicate 8 0)) t)).alloc (.cells (nums .u8 (List.replicate 8 0)) t)) (w.heap.size + 1) (List.replicate 8 0) ∧
    Below w.heap.size w ((w.alloc (.cells (nums .u8 (List.replicate 8 0)) t)).alloc (.cells (nums .u8 (List.replicate 8 0)) t)) := by
  have s1 : (w.alloc (.cells (nums .u8 (List.replicate 8 0)) t)).heap.size = w.heap.size + 1 := by simp
  have h1 : ArrI t .u8 ((w.alloc (.cells (nums .u8 (List.replicate 8 0)) t)).alloc (.cells (nums .u8 (List.replicate 8 0)) t)) _ _ := ArrI.new t .u8 _ (List.replicate 8 0)
  rw [s1] at h1
  exact ⟨(ArrI.new _ .u8 w _).alloc _, h1, ((Below.refl _ _).alloc (Nat.le_refl _) _).alloc (by simp) _⟩

set_option maxRecDepth 20000 in
set_option maxHeartbeats 1000000 in
theorem eight_any (n : Nat) (w : World) :
    Calls Tryd.prog 19 #[.int .u64 n] w fun r w' => r = .returned (.agg (nums .u8 (eigL n))) ∧ Below w.heap.size w w' := by
  obtain ⟨hZ0, hK0, hb0⟩ := two_new8 w 33
  rw [zero8] at hZ0 hK0 hb0
  go_enter Tryd.func19, Tryd.ntmps19
  go_wp2_with fail
  go_loopw [5] (fun i wr => ∃ k : Nat, k ≤ 8 ∧ i = .int .i64 k ∧ ArrI 33 .u8 wr (w.heap.size + 1) (eigP n k) ∧ ArrI 33 .u8 wr w.heap.size (List.replicate 8 0) ∧ Below w.heap.size w wr) (fun i _ => 8 - (intOf i).toNat)
  case atStart => exact ⟨0, by omega, rfl, hK0, hZ0, hb0⟩
  case round =>
    clear hZ0 hK0 hb0
    obtain ⟨k, hk, rfl, hB, hZ, hb⟩ := hrel
    by_cases h : k < 8
    · have hst := eigL_get n h
      have hd := hB.cell (i := k) (by rw [eigP_len]; exact h)
      have hf := hB.free k
      have hB2 := hB.set k ((eigL n).getD k 0)
      rw [eigP_set] at hB2
      obtain ⟨r, hr⟩ : ∃ r : Nat, r = 56 - 8 * k := ⟨_, rfl⟩
      have hr1 : 56 - 8 * (k : Int) = (r : Int) := by omega
      have hr2 : r < 64 := by omega
      rw [← hr] at hst
      have hst2 : (n : Int) / 2 ^ r % 256 = (eigL n).getD k 0 := by
        rw [hst, Int.natCast_emod, Int.natCast_ediv, Int.natCast_pow]
        rfl
      generalize (eigL n).getD k 0 = z at hst2 hB2
      generalize (eigP n k).getD k 0 = old at hd
      have hZ3 := hZ.other (w.heap.size + 1) k (.int .u8 z) (by omega)
      have hb3 := hb.setCell (p := ⟨w.heap.size + 1, k, none⟩) (show w.heap.size ≤ w.heap.size + 1 by omega) (.int .u8 z)
      clear hZ hb hB hr hst
      have hk8 : (k : Int) < 8 := by omega
      go_wp2_with fail
      generalize wr.setCell ⟨w.heap.size + 1, k, none⟩ (.int .u8 z) = W1 at hZ3 hB2 hb3 ⊢
      go_roundw
      case rel => exact ⟨k + 1, by omega, by go_num, hB2, hZ3, hb3⟩
      case measure => simp [intOf]; omega
    · obtain rfl : k = 8 := by omega
      rw [eigP_end] at hB
      have hi1 := info_nums .u8 (eigL n) infoE8 (eigL_len n)
      have hZ4 := hZ.setRow (eigL n)
      have hb4 := hb.trans (below_setRow wr w.heap.size (nums .u8 (eigL n)) (Nat.le_refl _))
      have hsz : (nums .u8 (List.replicate 8 0)).size = (nums .u8 (eigL n)).size := by rw [nums_size, nums_size, eigL_len]; rfl
      go_wp2_with (first
        | refine wpList_load_row rfl 33 _ rfl (w.heap.size + 1) rfl _ _ _ _ hB Tryd.underlying33 rfl hi1 ?_
        | refine wpList_store_row rfl 33 _ _ rfl w.heap.size (nums .u8 (eigL n)) rfl rfl _ _ hZ hi1 hsz (nums_one _ _) ?_)
      exact bodyPost_ret (results_cell_row rfl _ _ w.heap.size _ _ _ _ rfl hZ4 Tryd.underlying33 rfl hi1) rfl ⟨rfl, hb4⟩

end Go.Proofs.YtphdbpljgilcgaaDoor.M
