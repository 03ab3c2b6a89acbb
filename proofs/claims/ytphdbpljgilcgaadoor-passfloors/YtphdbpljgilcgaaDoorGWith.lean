/-
  Own text: contracts of the exclusive or of four words and of their doubling, the program's and the reference's.
-/
import Derived.Test.YtphdbpljgilcgaaDoorGStir
namespace Go.Proofs.YtphdbpljgilcgaaDoor.M
open Go.ChangeShapes Go.WideShapes Go.ChangeAt Go.RowKit

theorem three_new (w : World) (xs ys : List Int) (t : TypeId) :
    ArrI t .u32 (((w.alloc (.cells (nums .u32 xs) t)).alloc (.cells (nums .u32 ys) t)).alloc (.cells #[.int .u32 0, .int .u32 0, .int .u32 0, .int .u32 0] t)) w.heap.size xs ∧
    ArrI t .u32 (((w.alloc (.cells (nums .u32 xs) t)).alloc (.cells (nums .u32 ys) t)).alloc (.cells #[.int .u32 0, .int .u32 0, .int .u32 0, .int .u32 0] t)) (w.heap.size + 1) ys ∧
    ArrI t .u32 (((w.alloc (.cells (nums .u32 xs) t)).alloc (.cells (nums .u32 ys) t)).alloc (.cells #[.int .u32 0, .int .u32 0, .int .u32 0, .int .u32 0] t)) (w.heap.size + 2) [0, 0, 0, 0] ∧
    Below w.heap.size w (((w.alloc (.cells (nums .u32 xs) t)).alloc (.cells (nums .u32 ys) t)).alloc (.cells #[.int .u32 0, .int .u32 0, .int .u32 0, .int .u32 0] t)) := by
  have s1 : (w.alloc (.cells (nums .u32 xs) t)).heap.size = w.heap.size + 1 := by simp
  have s2 : ((w.alloc (.cells (nums .u32 xs) t)).alloc (.cells (nums .u32 ys) t)).heap.size = w.heap.size + 2 := by simp
  have h1 : ArrI t .u32 ((w.alloc (.cells (nums .u32 xs) t)).alloc (.cells (nums .u32 ys) t)) _ ys := ArrI.new t .u32 _ ys
  rw [s1] at h1
  have h2 : ArrI t .u32 (((w.alloc (.cells (nums .u32 xs) t)).alloc (.cells (nums .u32 ys) t)).alloc (.cells #[.int .u32 0, .int .u32 0, .int .u32 0, .int .u32 0] t)) _ [0, 0, 0, 0] := ArrI.new t .u32 _ [0, 0, 0, 0]
  rw [s2] at h2
  exact ⟨((ArrI.new t .u32 w xs).alloc _).alloc _, h1.alloc _, h2, (((Below.refl _ _).alloc (Nat.le_refl _) _).alloc (by simp) _).alloc (by simp; omega) _⟩

/-- The first so many words are done. -/
def xrL (xs ys : List Int) (k : Nat) : List Int := (List.range 4).map fun i => if i < k then ((xs.getD i 0).toNat ^^^ (ys.getD i 0).toNat : Nat) else xs.getD i 0

theorem xrL_set (xs ys : List Int) (k : Nat) : (xrL xs ys k).set k (((xs.getD k 0).toNat ^^^ (ys.getD k 0).toNat : Nat) : Int) = xrL xs ys (k + 1) := by
  apply List.ext_getElem
  · simp [xrL]
  · intro i h1 h2
    rw [List.getElem_set]
    simp only [xrL, List.getElem_map, List.getElem_range]
    by_cases h : k = i
    · subst h; simp
    · rw [if_neg h]
      by_cases h3 : i < k
      · rw [if_pos h3, if_pos (by omega)]
      · rw [if_neg h3, if_neg (by omega)]

theorem xrL_get (xs ys : List Int) (k : Nat) (hk : k < 4) : (xrL xs ys k).getD k 0 = xs.getD k 0 := by
  rw [List.getD_eq_getElem?_getD, xrL, List.getElem?_map, List.getElem?_range hk]
  simp

theorem xrL_end (s t : Nat × Nat × Nat × Nat) : xrL (qI s) (qI t) 4 = qI (xr s t) := rfl
theorem xrL_zero (s : Nat × Nat × Nat × Nat) (ys : List Int) : xrL (qI s) ys 0 = qI s := rfl
theorem xrL_len (xs ys : List Int) (k : Nat) : (xrL xs ys k).length = 4 := by simp [xrL]

theorem qI_word {s : Nat × Nat × Nat × Nat} (h : Qd s) : ∀ k, k < 4 → ∃ x : Nat, (qI s).getD k 0 = (x : Int) ∧ x < 4294967296
  | 0, _ => ⟨_, rfl, h.1⟩
  | 1, _ => ⟨_, rfl, h.2.1⟩
  | 2, _ => ⟨_, rfl, h.2.2.1⟩
  | 3, _ => ⟨_, rfl, h.2.2.2⟩

set_option maxRecDepth 20000 in
set_option maxHeartbeats 1000000 in
theorem with_any (s t : Nat × Nat × Nat × Nat) (w : World) (hs : Qd s) (ht : Qd t) :
    Calls Tryd.prog 39 #[.agg (qA s), .agg (qA t)] w fun r w' => r = .returned (.agg (qA (xr s t))) ∧ Below w.heap.size w w' := by
  obtain ⟨hA0, hB0, hZ0, hb0⟩ := three_new w (qI s) (qI t) 76
  rw [← qA_nums, ← qA_nums, qA, qA] at hA0 hB0 hZ0 hb0
  unfold qA
  go_enter Tryd.func39, Tryd.ntmps39
  go_wp2_with fail
  go_loopw [6] (fun i wr => ∃ k : Nat, k ≤ 4 ∧ i = .int .i64 k ∧ ArrI 76 .u32 wr w.heap.size (xrL (qI s) (qI t) k) ∧ ArrI 76 .u32 wr (w.heap.size + 1) (qI t) ∧ ArrI 76 .u32 wr (w.heap.size + 2) [0, 0, 0, 0] ∧ Below w.heap.size w wr) (fun i _ => 4 - (intOf i).toNat)
  case atStart => exact ⟨0, by omega, rfl, hA0, hB0, hZ0, hb0⟩
  case round =>
    clear hA0 hB0 hZ0 hb0
    obtain ⟨k, hk, rfl, hA, hB, hZ, hb⟩ := hrel
    by_cases h : k < 4
    · have hc := hA.cell (i := k) (by rw [xrL_len]; exact h)
      rw [xrL_get _ _ _ h] at hc
      have hf := hA.free k
      have hd := hB.cell (i := k) h
      have hA2 := hA.set k (((qI s).getD k 0).toNat ^^^ ((qI t).getD k 0).toNat : Nat)
      rw [xrL_set] at hA2
      obtain ⟨x, hx, hxl⟩ := qI_word hs k h
      obtain ⟨y, hy, hyl⟩ := qI_word ht k h
      rw [hx] at hc hA2
      rw [hy] at hd hA2
      rw [Int.toNat_natCast, Int.toNat_natCast] at hA2
      have hx2 : bits .xor .u32 (x : Int) (y : Int) = ((x ^^^ y : Nat) : Int) := u32_xor_nat x y hxl hyl
      generalize x ^^^ y = z at hA2 hx2
      have hB2 := (hB.other w.heap.size k (.int .u32 (z : Int)) (by omega)).drew
      have hZ2 := (hZ.other w.heap.size k (.int .u32 (z : Int)) (by omega)).drew
      have hb2 := (hb.setCell (p := ⟨w.heap.size, k, none⟩) (Nat.le_refl _) (.int .u32 (z : Int))).drew
      have hA3 := hA2.drew
      clear hA hB hZ hb hx hy hA2
      have hk4 : (k : Int) < 4 := by omega
      go_wp2_with fail
      apply wp_meet
      · go_region
        all_goals exact Meet.mk
      generalize (wr.setCell ⟨w.heap.size, k, none⟩ (.int .u32 (z : Int))).drew = W1 at hA3 hB2 hZ2 hb2 ⊢
      go_wp2_with fail
      go_roundw
      case rel => exact ⟨k + 1, by omega, by go_num, hA3, hB2, hZ2, hb2⟩
      case measure => simp [intOf]; omega
    · obtain rfl : k = 4 := by omega
      rw [xrL_end] at hA
      have hi := info_nums .u32 (qI (xr s t)) infoK rfl
      have hz : (nums .u32 [0, 0, 0, 0]).size = (nums .u32 (qI (xr s t))).size := rfl
      have hZ2 := hZ.setRow (qI (xr s t))
      have hb2 := hb.trans (below_setRow wr (w.heap.size + 2) (nums .u32 (qI (xr s t))) (by omega))
      go_wp2_with (first | refine wpList_load_row rfl 76 _ rfl w.heap.size rfl _ _ _ _ hA Tryd.underlying76 rfl hi ?_ | refine wpList_store_row rfl 76 _ _ rfl (w.heap.size + 2) (nums .u32 (qI (xr s t))) rfl rfl _ _ hZ hi hz (nums_one _ _) ?_)
      exact bodyPost_ret (results_cell_row (p := 4) rfl _ _ (w.heap.size + 2) _ _ _ _ rfl hZ2 Tryd.underlying76 rfl hi) rfl ⟨rfl, hb2⟩

end Go.Proofs.YtphdbpljgilcgaaDoor.M
