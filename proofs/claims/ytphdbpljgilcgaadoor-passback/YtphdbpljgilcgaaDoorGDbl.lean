/-
  Own text: contracts of the doubling of four words, the program's and the reference's.
-/
import Derived.Test.YtphdbpljgilcgaaDoorGWith
namespace Go.Proofs.YtphdbpljgilcgaaDoor.M
open Go.ChangeShapes Go.WideShapes Go.ChangeAt Go.RowKit

theorem two_arr (w : World) (xs : List Int) (t : TypeId) :
    ArrI t .u32 ((w.alloc (.cells (nums .u32 xs) t)).alloc (.cells #[.int .u32 0, .int .u32 0, .int .u32 0, .int .u32 0] t)) w.heap.size xs ∧
    ArrI t .u32 ((w.alloc (.cells (nums .u32 xs) t)).alloc (.cells #[.int .u32 0, .int .u32 0, .int .u32 0, .int .u32 0] t)) (w.heap.size + 1) [0, 0, 0, 0] ∧
    Below w.heap.size w ((w.alloc (.cells (nums .u32 xs) t)).alloc (.cells #[.int .u32 0, .int .u32 0, .int .u32 0, .int .u32 0] t)) := by
  have h3 : (w.alloc (.cells (nums .u32 xs) t)).heap.size = w.heap.size + 1 := by simp
  have h1 : ArrI t .u32 ((w.alloc (.cells (nums .u32 xs) t)).alloc (.cells #[.int .u32 0, .int .u32 0, .int .u32 0, .int .u32 0] t)) _ [0, 0, 0, 0] := ArrI.new t .u32 _ [0, 0, 0, 0]
  rw [h3] at h1
  exact ⟨(ArrI.new t .u32 w xs).alloc _, h1, ((Below.refl _ _).alloc (Nat.le_refl _) _).alloc (by simp) _⟩

theorem shl_or {x y : Nat} (hy : y < 4294967296) : bits .or .u32 ((x : Int) * 2 % 4294967296) ((y : Int) / 2147483648) = ((2 * x % 4294967296 + y / 2147483648 : Nat) : Int) := by
  have e1 : (x : Int) * 2 % 4294967296 = ((x * 2 % 4294967296 : Nat) : Int) := by omega
  have e2 : (y : Int) / 2147483648 = ((y / 2147483648 : Nat) : Int) := by omega
  rw [e1, e2, u32_or_nat _ _ (Nat.mod_lt _ (by decide)) (by omega), shl1_or hy]

set_option maxRecDepth 20000 in
set_option maxHeartbeats 1000000 in
theorem doubled_core (a b c d z0 z1 z2 z3 : Nat) (w : World) (_ha : a < 4294967296) (_hb : b < 4294967296) (_hc : c < 4294967296) (hd : d < 4294967296)
    (e3 : bits .or .u32 ((d : Int) * 2 % 4294967296) ((c : Int) / 2147483648) = (z3 : Int))
    (e2 : bits .or .u32 ((c : Int) * 2 % 4294967296) ((b : Int) / 2147483648) = (z2 : Int))
    (e1 : bits .or .u32 ((b : Int) * 2 % 4294967296) ((a : Int) / 2147483648) = (z1 : Int))
    (e0 : bits .xor .u32 ((a : Int) * 2 % 4294967296) (135 * ((d : Int) / 2147483648)) = (z0 : Int)) :
    Calls Tryd.prog 54 #[.agg #[.int .u32 a, .int .u32 b, .int .u32 c, .int .u32 d]] w fun r w' => r = .returned (.agg #[.int .u32 z0, .int .u32 z1, .int .u32 z2, .int .u32 z3]) ∧ Below w.heap.size w w' := by
  obtain ⟨hA0, hZ0, hb0⟩ : _ ∧ _ ∧ _ := two_arr w [(a : Int), (b : Int), (c : Int), (d : Int)] 76
  have en : nums .u32 [(a : Int), (b : Int), (c : Int), (d : Int)] = #[.int .u32 a, .int .u32 b, .int .u32 c, .int .u32 d] := rfl
  rw [en] at hA0 hZ0 hb0
  clear en
  go_enter Tryd.func54, Tryd.ntmps54
  go_wp2_with fail
  go_loopw [4] (fun i wr => ArrI 76 .u32 wr (w.heap.size + 1) [0, 0, 0, 0] ∧ Below w.heap.size w wr ∧
    ((i = .int .i64 3 ∧ ArrI 76 .u32 wr w.heap.size [(a : Int), (b : Int), (c : Int), (d : Int)]) ∨
     (i = .int .i64 2 ∧ ArrI 76 .u32 wr w.heap.size [(a : Int), (b : Int), (c : Int), (z3 : Int)]) ∨
     (i = .int .i64 1 ∧ ArrI 76 .u32 wr w.heap.size [(a : Int), (b : Int), (z2 : Int), (z3 : Int)]) ∨
     (i = .int .i64 0 ∧ ArrI 76 .u32 wr w.heap.size [(a : Int), (z1 : Int), (z2 : Int), (z3 : Int)]))) (fun i _ => (intOf i).toNat)
  case atStart => exact ⟨hZ0, hb0, Or.inl ⟨rfl, hA0⟩⟩
  case round =>
    clear hA0 hZ0 hb0
    obtain ⟨hZ, hb, ⟨rfl, hA⟩ | ⟨rfl, hA⟩ | ⟨rfl, hA⟩ | ⟨rfl, hA⟩⟩ := hrel
    · obtain ⟨q0, q1, q2, q3, f0, f1, f2, f3⟩ := cells4 hA
      go_wp2_with fail
      apply wp_meet
      · go_region
        all_goals exact Meet.mk
      have hA2 := (arr4_3 hA z3).drew
      have hZ2 := (hZ.other w.heap.size 3 (.int .u32 (z3 : Int)) (by omega)).drew
      have hb2 := (hb.setCell (p := ⟨w.heap.size, 3, none⟩) (Nat.le_refl _) (.int .u32 (z3 : Int))).drew
      generalize (wr.setCell ⟨w.heap.size, 3, none⟩ (.int .u32 (z3 : Int))).drew = W1 at hA2 hZ2 hb2 ⊢
      go_wp2_with fail
      go_roundw
      case rel => exact ⟨hZ2, hb2, Or.inr (Or.inl ⟨by go_num, hA2⟩)⟩
      case measure => simp [intOf]
    · obtain ⟨q0, q1, q2, q3, f0, f1, f2, f3⟩ := cells4 hA
      go_wp2_with fail
      apply wp_meet
      · go_region
        all_goals exact Meet.mk
      have hA2 := (arr4_2 hA z2).drew
      have hZ2 := (hZ.other w.heap.size 2 (.int .u32 (z2 : Int)) (by omega)).drew
      have hb2 := (hb.setCell (p := ⟨w.heap.size, 2, none⟩) (Nat.le_refl _) (.int .u32 (z2 : Int))).drew
      generalize (wr.setCell ⟨w.heap.size, 2, none⟩ (.int .u32 (z2 : Int))).drew = W1 at hA2 hZ2 hb2 ⊢
      go_wp2_with fail
      go_roundw
      case rel => exact ⟨hZ2, hb2, Or.inr (Or.inr (Or.inl ⟨by go_num, hA2⟩))⟩
      case measure => simp [intOf]
    · obtain ⟨q0, q1, q2, q3, f0, f1, f2, f3⟩ := cells4 hA
      go_wp2_with fail
      apply wp_meet
      · go_region
        all_goals exact Meet.mk
      have hA2 := (arr4_1 hA z1).drew
      have hZ2 := (hZ.other w.heap.size 1 (.int .u32 (z1 : Int)) (by omega)).drew
      have hb2 := (hb.setCell (p := ⟨w.heap.size, 1, none⟩) (Nat.le_refl _) (.int .u32 (z1 : Int))).drew
      generalize (wr.setCell ⟨w.heap.size, 1, none⟩ (.int .u32 (z1 : Int))).drew = W1 at hA2 hZ2 hb2 ⊢
      go_wp2_with fail
      go_roundw
      case rel => exact ⟨hZ2, hb2, Or.inr (Or.inr (Or.inr ⟨by go_num, hA2⟩))⟩
      case measure => simp [intOf]
    · obtain ⟨q0, q1, q2, q3, f0, f1, f2, f3⟩ := cells4 hA
      have hA2 := arr4_0 hA z0
      have hZ2 := hZ.other w.heap.size 0 (.int .u32 (z0 : Int)) (by omega)
      have hb2 := hb.setCell (p := ⟨w.heap.size, 0, none⟩) (Nat.le_refl _) (.int .u32 (z0 : Int))
      have hi := info_nums .u32 [(z0 : Int), (z1 : Int), (z2 : Int), (z3 : Int)] infoK rfl
      have hz : (nums .u32 [0, 0, 0, 0]).size = (nums .u32 [(z0 : Int), (z1 : Int), (z2 : Int), (z3 : Int)]).size := rfl
      have hZ3 := hZ2.setRow [(z0 : Int), (z1 : Int), (z2 : Int), (z3 : Int)]
      have hb3 := hb2.trans (below_setRow _ (w.heap.size + 1) (nums .u32 [(z0 : Int), (z1 : Int), (z2 : Int), (z3 : Int)]) (by omega))
      go_wp2_with (first | refine wpList_load_row rfl 76 _ rfl w.heap.size rfl _ _ _ _ hA2 Tryd.underlying76 rfl hi ?_ | refine wpList_store_row rfl 76 _ _ rfl (w.heap.size + 1) (nums .u32 [(z0 : Int), (z1 : Int), (z2 : Int), (z3 : Int)]) rfl rfl _ _ hZ2 hi hz (nums_one _ _) ?_)
      exact bodyPost_ret (results_cell_row (p := 2) rfl _ _ (w.heap.size + 1) _ _ _ _ rfl hZ3 Tryd.underlying76 rfl hi) rfl ⟨rfl, hb3⟩

theorem doubled_any (s : Nat × Nat × Nat × Nat) (w : World) (hs : Qd s) :
    Calls Tryd.prog 54 #[.agg (qA s)] w fun r w' => r = .returned (.agg (qA (dbl s))) ∧ Below w.heap.size w w' := by
  obtain ⟨h0, h1, h2, h3⟩ := hs
  refine doubled_core s.1 s.2.1 s.2.2.1 s.2.2.2 _ _ _ _ w h0 h1 h2 h3 (shl_or h2) (shl_or h1) (shl_or h0) ?_
  have e1 : (s.1 : Int) * 2 % 4294967296 = ((2 * s.1 % 4294967296 : Nat) : Int) := by omega
  have e2 : 135 * ((s.2.2.2 : Int) / 2147483648) = ((135 * (s.2.2.2 / 2147483648) : Nat) : Int) := by omega
  rw [e1, e2, u32_xor_nat _ _ (Nat.mod_lt _ (by decide)) (by omega)]
  rfl

theorem ret_q {x0 x1 x2 x3 y0 y1 y2 y3 : Int} (h0 : x0 = y0) (h1 : x1 = y1) (h2 : x2 = y2) (h3 : x3 = y3) : Ending.returned (.agg #[.int .u32 x0, .int .u32 x1, .int .u32 x2, .int .u32 x3]) = .returned (.agg #[.int .u32 y0, .int .u32 y1, .int .u32 y2, .int .u32 y3]) := by
  subst h0 h1 h2 h3
  rfl

theorem heap_mid (w : World) (a b c : Obj) : (((w.alloc a).alloc b).alloc c).heap[w.heap.size + 1]? = some b := by
  have h3 : (w.alloc a).heap.size = w.heap.size + 1 := by simp
  have h1 := heap_alloc_new (w.alloc a) b
  rw [h3] at h1
  rw [(below_alloc ((w.alloc a).alloc b) c).block _ (by simp)]
  exact h1

end Go.Proofs.YtphdbpljgilcgaaDoor.M
