/-
  Own text: contracts of sixteen bytes as words.
-/
import Derived.Test.YtphdbpljgilcgaaDoorGDbl
namespace Go.Proofs.YtphdbpljgilcgaaDoor.M
open Go.ChangeShapes Go.WideShapes Go.ChangeAt Go.RowKit

theorem run_index_num (xs : List Int) (k : Nat) (w : World) (hl : xs.length = 16) (hk : k < 16) : (Instr.index 22 (.agg (nums .u8 xs)) (.int .i64 k)).run Tryd.prog w = .ok (.int .u8 (xs.getD k 0)) w := by
  have hu := Tryd.underlying22
  have hg := nums_get .u8 xs (i := k) (by omega)
  simp [Instr.index, run_underlying hu, asIntOf, go_sem]
  rw [if_pos hk, hg]
  simp

/-- A word of which the first bytes have come in. -/
def wpart (l : List Int) (k j : Nat) : Nat :=
  (if 4 * j < k then (l.getD (4 * j) 0).toNat else 0) + (if 4 * j + 1 < k then 256 * (l.getD (4 * j + 1) 0).toNat else 0) + (if 4 * j + 2 < k then 65536 * (l.getD (4 * j + 2) 0).toNat else 0) + (if 4 * j + 3 < k then 16777216 * (l.getD (4 * j + 3) 0).toNat else 0)

def wrL (l : List Int) (k : Nat) : List Int := (List.range 4).map fun j => ((wpart l k j : Nat) : Int)

theorem wrL_len (l : List Int) (k : Nat) : (wrL l k).length = 4 := by simp [wrL]
theorem wrL_zero (l : List Int) : wrL l 0 = [0, 0, 0, 0] := rfl
theorem wrL_end (l : List Int) : wrL l 16 = qI (qW l) := rfl

theorem wrL_get (l : List Int) (k j : Nat) (hj : j < 4) : (wrL l k).getD j 0 = ((wpart l k j : Nat) : Int) := by
  rw [List.getD_eq_getElem?_getD, wrL, List.getElem?_map, List.getElem?_range hj]
  rfl

theorem wrL_set (l : List Int) (k : Nat) : (wrL l k).set (k / 4) ((wpart l (k + 1) (k / 4) : Nat) : Int) = wrL l (k + 1) := by
  apply List.ext_getElem
  · simp [wrL]
  · intro i h1 h2
    rw [List.getElem_set]
    simp only [wrL, List.getElem_map, List.getElem_range]
    by_cases h : k / 4 = i
    · rw [if_pos h, h]
    · rw [if_neg h]
      congr 1
      unfold wpart
      have hi : i < 4 := by simpa [wrL] using h2
      have t : ∀ r, r < 4 → ((4 * i + r < k) ↔ (4 * i + r < k + 1)) := by intro r hr; omega
      simp only [t 1 (by omega), t 2 (by omega), t 3 (by omega)]
      have t0 : (4 * i < k) ↔ (4 * i < k + 1) := t 0 (by omega)
      simp only [t0]

theorem wpart_lt {l : List Int} (h : Byt l) (k : Nat) (j : Nat) : wpart l k j < 4294967296 := by
  have h0 := h.get (4 * j)
  have h1 := h.get (4 * j + 1)
  have h2 := h.get (4 * j + 2)
  have h3 := h.get (4 * j + 3)
  unfold wpart
  split <;> split <;> split <;> split <;> omega

/-- One byte more. -/
theorem wpart_step {l : List Int} (h : Byt l) (k : Nat) : bits .or .u32 ((wpart l k (k / 4) : Nat) : Int) (IntKind.u32.wrap (l.getD k 0 * 2 ^ (k % 4 * 8))) = ((wpart l (k + 1) (k / 4) : Nat) : Int) := by
  have hb := h.get k
  obtain ⟨x, hx⟩ : ∃ x : Nat, l.getD k 0 = (x : Int) := ⟨(l.getD k 0).toNat, by omega⟩
  have hx2 : x < 256 := by omega
  have e : IntKind.u32.wrap (l.getD k 0 * 2 ^ (k % 4 * 8)) = ((2 ^ (k % 4 * 8) * x : Nat) : Int) := by
    rw [IntKind.wrap_u32', hx, pow_cast, ← Int.natCast_mul]
    have : x * 2 ^ (k % 4 * 8) < 4294967296 := by
      have h4 : k % 4 < 4 := Nat.mod_lt _ (by decide)
      generalize k % 4 = r at h4 ⊢
      match r, h4 with
      | 0, _ => simp only [Nat.reduceMul, Nat.reducePow]; omega
      | 1, _ => simp only [Nat.reduceMul, Nat.reducePow]; omega
      | 2, _ => simp only [Nat.reduceMul, Nat.reducePow]; omega
      | 3, _ => simp only [Nat.reduceMul, Nat.reducePow]; omega
    rw [Nat.mul_comm] at this
    rw [Nat.mul_comm x]
    generalize 2 ^ (k % 4 * 8) * x = y at this
    omega
  have key : wpart l k (k / 4) < 2 ^ (k % 4 * 8) ∧ wpart l (k + 1) (k / 4) = 2 ^ (k % 4 * 8) * x + wpart l k (k / 4) := by
    obtain ⟨q, r, hr, rfl⟩ : ∃ q r, r < 4 ∧ k = 4 * q + r := ⟨k / 4, k % 4, Nat.mod_lt _ (by decide), by omega⟩
    have e1 : (4 * q + r) / 4 = q := by omega
    have e2 : (4 * q + r) % 4 = r := by omega
    rw [e1, e2]
    have h0 := h.get (4 * q)
    have h1 := h.get (4 * q + 1)
    have h2 := h.get (4 * q + 2)
    have h3 := h.get (4 * q + 3)
    unfold wpart
    match r, hr with
    | 0, _ =>
      rw [Nat.add_zero] at hx ⊢
      simp only [Nat.zero_mul, Nat.pow_zero]
      constructor <;> (repeat (first | rw [if_pos (by omega)] | rw [if_neg (by omega)])) <;> omega
    | 1, _ =>
      simp only [Nat.reduceMul, Nat.reducePow]
      constructor <;> (repeat (first | rw [if_pos (by omega)] | rw [if_neg (by omega)])) <;> omega
    | 2, _ =>
      simp only [Nat.reduceMul, Nat.reducePow]
      constructor <;> (repeat (first | rw [if_pos (by omega)] | rw [if_neg (by omega)])) <;> omega
    | 3, _ =>
      simp only [Nat.reduceMul, Nat.reducePow]
      constructor <;> (repeat (first | rw [if_pos (by omega)] | rw [if_neg (by omega)])) <;> omega
  have hlt := wpart_lt h (k + 1) (k / 4)
  rw [e, u32_or_nat _ _ (wpart_lt h k _) (by omega), key.2, Nat.or_comm, ← Nat.two_pow_add_eq_or_of_lt key.1]

theorem three_newW (w : World) (l : List Int) :
    ArrI 22 .u8 (((w.alloc (.cells (nums .u8 l) 22)).alloc (.cells #[.int .u32 0, .int .u32 0, .int .u32 0, .int .u32 0] 76)).alloc (.cells #[.int .u32 0, .int .u32 0, .int .u32 0, .int .u32 0] 76)) w.heap.size l ∧
    ArrI 76 .u32 (((w.alloc (.cells (nums .u8 l) 22)).alloc (.cells #[.int .u32 0, .int .u32 0, .int .u32 0, .int .u32 0] 76)).alloc (.cells #[.int .u32 0, .int .u32 0, .int .u32 0, .int .u32 0] 76)) (w.heap.size + 1) [0, 0, 0, 0] ∧
    ArrI 76 .u32 (((w.alloc (.cells (nums .u8 l) 22)).alloc (.cells #[.int .u32 0, .int .u32 0, .int .u32 0, .int .u32 0] 76)).alloc (.cells #[.int .u32 0, .int .u32 0, .int .u32 0, .int .u32 0] 76)) (w.heap.size + 2) [0, 0, 0, 0] ∧
    Below w.heap.size w (((w.alloc (.cells (nums .u8 l) 22)).alloc (.cells #[.int .u32 0, .int .u32 0, .int .u32 0, .int .u32 0] 76)).alloc (.cells #[.int .u32 0, .int .u32 0, .int .u32 0, .int .u32 0] 76)) := by
  have s1 : (w.alloc (.cells (nums .u8 l) 22)).heap.size = w.heap.size + 1 := by simp
  have s2 : ((w.alloc (.cells (nums .u8 l) 22)).alloc (.cells #[.int .u32 0, .int .u32 0, .int .u32 0, .int .u32 0] 76)).heap.size = w.heap.size + 2 := by simp
  have h1 : ArrI 76 .u32 ((w.alloc (.cells (nums .u8 l) 22)).alloc (.cells #[.int .u32 0, .int .u32 0, .int .u32 0, .int .u32 0] 76)) _ [0, 0, 0, 0] := ArrI.new 76 .u32 _ [0, 0, 0, 0]
  rw [s1] at h1
  have h2 : ArrI 76 .u32 (((w.alloc (.cells (nums .u8 l) 22)).alloc (.cells #[.int .u32 0, .int .u32 0, .int .u32 0, .int .u32 0] 76)).alloc (.cells #[.int .u32 0, .int .u32 0, .int .u32 0, .int .u32 0] 76)) _ [0, 0, 0, 0] := ArrI.new 76 .u32 _ [0, 0, 0, 0]
  rw [s2] at h2
  exact ⟨((ArrI.new _ .u8 w l).alloc _).alloc _, h1.alloc _, h2, (((Below.refl _ _).alloc (Nat.le_refl _) _).alloc (by simp) _).alloc (by simp; omega) _⟩

set_option maxRecDepth 20000 in
set_option maxHeartbeats 1000000 in
theorem words_any (l : List Int) (w : World) (hl : l.length = 16) (hby : Byt l) :
    Calls Tryd.prog 38 #[.agg (nums .u8 l)] w fun r w' => r = .returned (.agg (qA (qW l))) ∧ Below w.heap.size w w' := by
  obtain ⟨hA0, hZ0, hK0, hb0⟩ := three_newW w l
  have hiB := info_nums .u8 l infoB hl
  go_enter Tryd.func38, Tryd.ntmps38
  go_wp2_with (refine wpList_load_row rfl 22 _ rfl w.heap.size rfl _ _ _ _ hA0 Tryd.underlying22 rfl hiB ?_)
  go_loopw [7] (fun i wr => ∃ k : Nat, k ≤ 16 ∧ i = .int .i64 k ∧ ArrI 76 .u32 wr (w.heap.size + 1 + 1) (wrL l k) ∧ ArrI 76 .u32 wr (w.heap.size + 1) [0, 0, 0, 0] ∧ Below w.heap.size w wr) (fun i _ => 16 - (intOf i).toNat)
  case atStart => exact ⟨0, by omega, rfl, hK0, hZ0, hb0⟩
  case round =>
    clear hA0 hZ0 hK0 hb0 hiB
    obtain ⟨k, hk, rfl, hA, hZ, hb⟩ := hrel
    by_cases h : k < 16
    · have hix := fun W => run_index_num l k W hl h
      have hst := wpart_step hby k
      have hc := hA.cell (i := k / 4) (by rw [wrL_len]; omega)
      rw [wrL_get _ _ _ (by omega)] at hc
      have hf := hA.free (k / 4)
      have hA2 := hA.set (k / 4) (wpart l (k + 1) (k / 4) : Nat)
      rw [wrL_set] at hA2
      have hby' := hby.get k
      have hp := wpart_lt hby k (k / 4)
      obtain ⟨x, hx⟩ : ∃ x : Nat, l.getD k 0 = (x : Int) := ⟨(l.getD k 0).toNat, by omega⟩
      rw [hx] at hix hst hby'
      obtain ⟨q, hq⟩ : ∃ q : Nat, q = k / 4 := ⟨_, rfl⟩
      obtain ⟨r, hr⟩ : ∃ r : Nat, r = k % 4 * 8 := ⟨_, rfl⟩
      have hq1 : (k : Int) / 4 = (q : Int) := by omega
      have hr1 : (k : Int) % 4 * 8 = (r : Int) := by omega
      have hq2 : (q : Int) < 4 := by omega
      have hr2 : r < 32 := by omega
      rw [← hr, IntKind.wrap_u32'] at hst
      rw [← hq] at hst hA2 hc hf hp
      generalize wpart l (k + 1) q = z at hst hA2
      generalize wpart l k q = y at hst hc hp
      have hA3 := hA2.drew
      have hZ3 := (hZ.other (w.heap.size + 1 + 1) q (.int .u32 (z : Int)) (by omega)).drew
      have hb3 := (hb.setCell (p := ⟨w.heap.size + 1 + 1, q, none⟩) (show w.heap.size ≤ w.heap.size + 1 + 1 by omega) (.int .u32 (z : Int))).drew
      clear hA hZ hb hA2 hx hq hr hby hl
      have hk16 : (k : Int) < 16 := by omega
      go_wp2_with fail
      apply wp_meet
      · go_region
        all_goals exact Meet.mk
      generalize (wr.setCell ⟨w.heap.size + 1 + 1, q, none⟩ (.int .u32 (z : Int))).drew = W1 at hA3 hZ3 hb3 ⊢
      go_wp2_with fail
      go_roundw
      case rel => exact ⟨k + 1, by omega, by go_num, hA3, hZ3, hb3⟩
      case measure => simp [intOf]; omega
    · obtain rfl : k = 16 := by omega
      rw [wrL_end] at hA
      have hi := info_nums .u32 (qI (qW l)) infoK rfl
      have hz : (nums .u32 [0, 0, 0, 0]).size = (nums .u32 (qI (qW l))).size := rfl
      have hZ2 := hZ.setRow (qI (qW l))
      have hb2 := hb.trans (below_setRow wr (w.heap.size + 1) (nums .u32 (qI (qW l))) (by omega))
      go_wp2_with (first | refine wpList_load_row rfl 76 _ rfl (w.heap.size + 1 + 1) rfl _ _ _ _ hA Tryd.underlying76 rfl hi ?_ | refine wpList_store_row rfl 76 _ _ rfl (w.heap.size + 1) (nums .u32 (qI (qW l))) rfl rfl _ _ hZ hi hz (nums_one _ _) ?_)
      exact bodyPost_ret (results_cell_row (p := 2) rfl _ _ (w.heap.size + 1) _ _ _ _ rfl hZ2 Tryd.underlying76 rfl hi) rfl ⟨rfl, hb2⟩

end Go.Proofs.YtphdbpljgilcgaaDoor.M
