/-
  Own text: the walk of the law DiskNobody.
-/
import Derived.Test.YtohmjpjjmhcjgaaDShort
namespace Go.Proofs.Ytohmjpjjmhcjgaa.M
open Go.ChangeShapes Go.WideShapes Go.ChangeAt Go.RowKit

theorem rows3 (w : World) (o1 o2 o3 : Obj) : (((w.alloc o1).alloc o2).alloc o3).heap[w.heap.size]? = some o1 ∧ (((w.alloc o1).alloc o2).alloc o3).heap[w.heap.size + 1]? = some o2 ∧ (((w.alloc o1).alloc o2).alloc o3).heap[w.heap.size + 1 + 1]? = some o3 := by
  have s1 : (w.alloc o1).heap.size = w.heap.size + 1 := by simp
  have s2 : ((w.alloc o1).alloc o2).heap.size = w.heap.size + 1 + 1 := by simp
  refine ⟨?_, ?_, ?_⟩
  · rw [Below.heap_alloc _ _ _ (by omega), Below.heap_alloc _ _ _ (by omega)]
    exact heap_alloc_new _ _
  · rw [Below.heap_alloc _ _ _ (by omega), ← s1]
    exact heap_alloc_new _ _
  · rw [← s2]
    exact heap_alloc_new _ _

theorem cell_row {w : World} {b : Nat} {cs : Array Value} {t : TypeId} (h : w.heap[b]? = some (.cells cs t)) {j : Nat} {v : Value} (hj : cs[j]? = some v) : w.cell? ⟨b, j, none⟩ = some v := by
  unfold World.cell?
  dsimp only
  rw [h]
  exact hj

set_option maxRecDepth 20000 in
set_option maxHeartbeats 1000000 in
theorem walk_DiskNobody (w : World) (op i n : Int) (bq : Option Addr) (bl bc : Nat) (kq : Option Addr) (kl kc : Nat) :
    Calls Try.prog 3 #[.agg #[.int .i64 op, .int .i64 i, .int .i64 n, .slice bq bl bc, .slice kq kl kc]] w fun e w' => e = .returned (.bool true) ∧ Below w.heap.size w w' := by
  have hb0 : Below w.heap.size w (((w.alloc (.cells #[.int .i64 op, .int .i64 i, .int .i64 n, .slice bq bl bc, .slice kq kl kc] 25)).alloc (.cells #[.int .i64 op, .int .i64 i, .int .i64 n, .slice bq bl bc, .slice kq kl kc] 25)).alloc (.cells #[.slice (some ⟨w.heap.size + 1, 0, none⟩) 1 1] 27)) := (((Below.refl _ _).alloc (Nat.le_refl _) _).alloc (by simp) _).alloc (by simp; omega) _
  obtain ⟨r0, r1, r2⟩ := rows3 w (.cells #[.int .i64 op, .int .i64 i, .int .i64 n, .slice bq bl bc, .slice kq kl kc] 25) (.cells #[.int .i64 op, .int .i64 i, .int .i64 n, .slice bq bl bc, .slice kq kl kc] 25) (.cells #[.slice (some ⟨w.heap.size + 1, 0, none⟩) 1 1] 27)
  have hS := short_one (((w.alloc (.cells #[.int .i64 op, .int .i64 i, .int .i64 n, .slice bq bl bc, .slice kq kl kc] 25)).alloc (.cells #[.int .i64 op, .int .i64 i, .int .i64 n, .slice bq bl bc, .slice kq kl kc] 25)).alloc (.cells #[.slice (some ⟨w.heap.size + 1, 0, none⟩) 1 1] 27)) (w.heap.size + 1) (w.heap.size + 1 + 1) bq bl bc kq kl kc (cell_row r2 rfl) (cell_row r1 rfl) (cell_row r1 rfl)
  have c0 : (((w.alloc (.cells #[.int .i64 op, .int .i64 i, .int .i64 n, .slice bq bl bc, .slice kq kl kc] 25)).alloc (.cells #[.int .i64 op, .int .i64 i, .int .i64 n, .slice bq bl bc, .slice kq kl kc] 25)).alloc (.cells #[.slice (some ⟨w.heap.size + 1, 0, none⟩) 1 1] 27)).cell? ⟨w.heap.size, 0, none⟩ = some (.int .i64 op) := cell_row r0 rfl
  have c1 : (((w.alloc (.cells #[.int .i64 op, .int .i64 i, .int .i64 n, .slice bq bl bc, .slice kq kl kc] 25)).alloc (.cells #[.int .i64 op, .int .i64 i, .int .i64 n, .slice bq bl bc, .slice kq kl kc] 25)).alloc (.cells #[.slice (some ⟨w.heap.size + 1, 0, none⟩) 1 1] 27)).cell? ⟨w.heap.size, 1, none⟩ = some (.int .i64 i) := cell_row r0 rfl
  have c2 : (((w.alloc (.cells #[.int .i64 op, .int .i64 i, .int .i64 n, .slice bq bl bc, .slice kq kl kc] 25)).alloc (.cells #[.int .i64 op, .int .i64 i, .int .i64 n, .slice bq bl bc, .slice kq kl kc] 25)).alloc (.cells #[.slice (some ⟨w.heap.size + 1, 0, none⟩) 1 1] 27)).cell? ⟨w.heap.size, 2, none⟩ = some (.int .i64 n) := cell_row r0 rfl
  have c3 : (((w.alloc (.cells #[.int .i64 op, .int .i64 i, .int .i64 n, .slice bq bl bc, .slice kq kl kc] 25)).alloc (.cells #[.int .i64 op, .int .i64 i, .int .i64 n, .slice bq bl bc, .slice kq kl kc] 25)).alloc (.cells #[.slice (some ⟨w.heap.size + 1, 0, none⟩) 1 1] 27)).cell? ⟨w.heap.size, 3, none⟩ = some (.slice bq bl bc) := cell_row r0 rfl
  have c4 : (((w.alloc (.cells #[.int .i64 op, .int .i64 i, .int .i64 n, .slice bq bl bc, .slice kq kl kc] 25)).alloc (.cells #[.int .i64 op, .int .i64 i, .int .i64 n, .slice bq bl bc, .slice kq kl kc] 25)).alloc (.cells #[.slice (some ⟨w.heap.size + 1, 0, none⟩) 1 1] 27)).cell? ⟨w.heap.size, 4, none⟩ = some (.slice kq kl kc) := cell_row r0 rfl
  clear r0 r1 r2
  generalize hW0 : ((w.alloc (.cells #[.int .i64 op, .int .i64 i, .int .i64 n, .slice bq bl bc, .slice kq kl kc] 25)).alloc (.cells #[.int .i64 op, .int .i64 i, .int .i64 n, .slice bq bl bc, .slice kq kl kc] 25)).alloc (.cells #[.slice (some ⟨w.heap.size + 1, 0, none⟩) 1 1] 27) = w0 at *
  go_enter Try.func3, Try.ntmps3
  go_wp2_with fail
  refine hS.mono ?_
  rintro e w1 ⟨⟨b, rfl⟩, hb1⟩
  have hbb := hb0.trans (hb1.mono hb0.size)
  have e0 : w1.cell? ⟨w.heap.size, 0, none⟩ = some (.int .i64 op) := by rw [hb1.cell (p := ⟨w.heap.size, 0, none⟩) (World.block_lt_of_cell? _ _ c0)]; exact c0
  have e1 : w1.cell? ⟨w.heap.size, 1, none⟩ = some (.int .i64 i) := by rw [hb1.cell (p := ⟨w.heap.size, 1, none⟩) (World.block_lt_of_cell? _ _ c1)]; exact c1
  have e2 : w1.cell? ⟨w.heap.size, 2, none⟩ = some (.int .i64 n) := by rw [hb1.cell (p := ⟨w.heap.size, 2, none⟩) (World.block_lt_of_cell? _ _ c2)]; exact c2
  have e3 : w1.cell? ⟨w.heap.size, 3, none⟩ = some (.slice bq bl bc) := by rw [hb1.cell (p := ⟨w.heap.size, 3, none⟩) (World.block_lt_of_cell? _ _ c3)]; exact c3
  have e4 : w1.cell? ⟨w.heap.size, 4, none⟩ = some (.slice kq kl kc) := by rw [hb1.cell (p := ⟨w.heap.size, 4, none⟩) (World.block_lt_of_cell? _ _ c4)]; exact c4
  clear c0 c1 c2 c3 c4 hb1 hS hb0 hW0
  cases b with
  | false =>
    go_wp2_with fail
    refine (awake_any w1).mono ?_
    rintro e w2 ⟨rfl, hb2⟩
    go_wp2_with fail
    go_ret
    exact ⟨rfl, hbb.trans (hb2.mono hbb.size)⟩
  | true =>
    have hb2 : Below w1.heap.size w1 ((w1.alloc (.cells #[.int .i64 0, .bool false, Value.slice none 0 0, Value.slice none 0 0, Value.bool false, Value.slice none 0 0, Value.slice none 0 0, Value.bool false, Value.slice none 0 0, Value.slice none 0 0, Value.bool false, Value.slice none 0 0, Value.slice none 0 0, Value.bool false, Value.slice none 0 0, Value.slice none 0 0, Value.bool false, Value.slice none 0 0, Value.slice none 0 0, Value.bool false, Value.slice none 0 0, Value.slice none 0 0, Value.bool false, Value.slice none 0 0, Value.slice none 0 0, Value.bool false, .int .i64 0, .slice none 0 0] 36)).alloc (.cells #[.pointer none, .pointer (some ⟨w1.heap.size, 0, none⟩)] 29)) := ((Below.refl _ _).alloc (Nat.le_refl _) _).alloc (by simp) _
    have s0 : ((w1.alloc (.cells #[.int .i64 0, .bool false, Value.slice none 0 0, Value.slice none 0 0, Value.bool false, Value.slice none 0 0, Value.slice none 0 0, Value.bool false, Value.slice none 0 0, Value.slice none 0 0, Value.bool false, Value.slice none 0 0, Value.slice none 0 0, Value.bool false, Value.slice none 0 0, Value.slice none 0 0, Value.bool false, Value.slice none 0 0, Value.slice none 0 0, Value.bool false, Value.slice none 0 0, Value.slice none 0 0, Value.bool false, Value.slice none 0 0, Value.slice none 0 0, Value.bool false, .int .i64 0, .slice none 0 0] 36)).alloc (.cells #[.pointer none, .pointer (some ⟨w1.heap.size, 0, none⟩)] 29)).cell? ⟨w1.heap.size + 1, 0, none⟩ = some (.pointer none) := by simp
    have s1 : ((w1.alloc (.cells #[.int .i64 0, .bool false, Value.slice none 0 0, Value.slice none 0 0, Value.bool false, Value.slice none 0 0, Value.slice none 0 0, Value.bool false, Value.slice none 0 0, Value.slice none 0 0, Value.bool false, Value.slice none 0 0, Value.slice none 0 0, Value.bool false, Value.slice none 0 0, Value.slice none 0 0, Value.bool false, Value.slice none 0 0, Value.slice none 0 0, Value.bool false, Value.slice none 0 0, Value.slice none 0 0, Value.bool false, Value.slice none 0 0, Value.slice none 0 0, Value.bool false, .int .i64 0, .slice none 0 0] 36)).alloc (.cells #[.pointer none, .pointer (some ⟨w1.heap.size, 0, none⟩)] 29)).cell? ⟨w1.heap.size + 1, 1, none⟩ = some (.pointer (some ⟨w1.heap.size, 0, none⟩)) := by simp
    have s2 : ((w1.alloc (.cells #[.int .i64 0, .bool false, Value.slice none 0 0, Value.slice none 0 0, Value.bool false, Value.slice none 0 0, Value.slice none 0 0, Value.bool false, Value.slice none 0 0, Value.slice none 0 0, Value.bool false, Value.slice none 0 0, Value.slice none 0 0, Value.bool false, Value.slice none 0 0, Value.slice none 0 0, Value.bool false, Value.slice none 0 0, Value.slice none 0 0, Value.bool false, Value.slice none 0 0, Value.slice none 0 0, Value.bool false, Value.slice none 0 0, Value.slice none 0 0, Value.bool false, .int .i64 0, .slice none 0 0] 36)).alloc (.cells #[.pointer none, .pointer (some ⟨w1.heap.size, 0, none⟩)] 29)).cell? ⟨w1.heap.size, 0, none⟩ = some (.int .i64 0) := by simp
    go_wp2_with fail
    generalize (w1.alloc (.cells #[.int .i64 0, .bool false, Value.slice none 0 0, Value.slice none 0 0, Value.bool false, Value.slice none 0 0, Value.slice none 0 0, Value.bool false, Value.slice none 0 0, Value.slice none 0 0, Value.bool false, Value.slice none 0 0, Value.slice none 0 0, Value.bool false, Value.slice none 0 0, Value.slice none 0 0, Value.bool false, Value.slice none 0 0, Value.slice none 0 0, Value.bool false, Value.slice none 0 0, Value.slice none 0 0, Value.bool false, Value.slice none 0 0, Value.slice none 0 0, Value.bool false, .int .i64 0, .slice none 0 0] 36)).alloc (.cells #[.pointer none, .pointer (some ⟨w1.heap.size, 0, none⟩)] 29) = w2 at *
    have hNb : ∀ (k : Nat) (wr : World), k < 2 → Below w2.heap.size w2 wr → ∃ v, wr.cell? ⟨w1.heap.size + 1, k, none⟩ = some v ∧ Nob v wr := by
      intro k wr hk hb
      have t0 : wr.cell? ⟨w1.heap.size + 1, 0, none⟩ = some (.pointer none) := by rw [hb.cell (p := ⟨w1.heap.size + 1, 0, none⟩) (World.block_lt_of_cell? _ _ s0)]; exact s0
      have t1 : wr.cell? ⟨w1.heap.size + 1, 1, none⟩ = some (.pointer (some ⟨w1.heap.size, 0, none⟩)) := by rw [hb.cell (p := ⟨w1.heap.size + 1, 1, none⟩) (World.block_lt_of_cell? _ _ s1)]; exact s1
      have t2 : wr.cell? ⟨w1.heap.size, 0, none⟩ = some (.int .i64 0) := by rw [hb.cell (p := ⟨w1.heap.size, 0, none⟩) (World.block_lt_of_cell? _ _ s2)]; exact s2
      match k, hk with
      | 0, _ => exact ⟨_, t0, Or.inl rfl⟩
      | 1, _ => exact ⟨_, t1, Or.inr ⟨_, rfl, t2⟩⟩
    have hb3 := hbb.trans (hb2.mono hbb.size)
    have f0 : w2.cell? ⟨w.heap.size, 0, none⟩ = some (.int .i64 op) := by rw [hb2.cell (p := ⟨w.heap.size, 0, none⟩) (World.block_lt_of_cell? _ _ e0)]; exact e0
    have f1 : w2.cell? ⟨w.heap.size, 1, none⟩ = some (.int .i64 i) := by rw [hb2.cell (p := ⟨w.heap.size, 1, none⟩) (World.block_lt_of_cell? _ _ e1)]; exact e1
    have f2 : w2.cell? ⟨w.heap.size, 2, none⟩ = some (.int .i64 n) := by rw [hb2.cell (p := ⟨w.heap.size, 2, none⟩) (World.block_lt_of_cell? _ _ e2)]; exact e2
    have f3 : w2.cell? ⟨w.heap.size, 3, none⟩ = some (.slice bq bl bc) := by rw [hb2.cell (p := ⟨w.heap.size, 3, none⟩) (World.block_lt_of_cell? _ _ e3)]; exact e3
    have f4 : w2.cell? ⟨w.heap.size, 4, none⟩ = some (.slice kq kl kc) := by rw [hb2.cell (p := ⟨w.heap.size, 4, none⟩) (World.block_lt_of_cell? _ _ e4)]; exact e4
    clear e0 e1 e2 e3 e4 s0 s1 s2 hb2 hbb
    go_loopw [18] (fun i wr => ∃ k : Nat, k ≤ 2 ∧ i = .int .i64 k ∧ Below w2.heap.size w2 wr) (fun i _ => 2 - (intOf i).toNat)
    case atStart => exact ⟨0, Nat.zero_le _, rfl, Below.refl _ _⟩
    case round =>
      obtain ⟨k, hk, rfl, hb⟩ := hrel
      by_cases hk2 : k < 2
      · obtain ⟨v, hv, hN⟩ := hNb k wr hk2 hb
        have g0 : wr.cell? ⟨w.heap.size, 0, none⟩ = some (.int .i64 op) := by rw [hb.cell (p := ⟨w.heap.size, 0, none⟩) (World.block_lt_of_cell? _ _ f0)]; exact f0
        have g1 : wr.cell? ⟨w.heap.size, 1, none⟩ = some (.int .i64 i) := by rw [hb.cell (p := ⟨w.heap.size, 1, none⟩) (World.block_lt_of_cell? _ _ f1)]; exact f1
        have g2 : wr.cell? ⟨w.heap.size, 2, none⟩ = some (.int .i64 n) := by rw [hb.cell (p := ⟨w.heap.size, 2, none⟩) (World.block_lt_of_cell? _ _ f2)]; exact f2
        have g3 : wr.cell? ⟨w.heap.size, 3, none⟩ = some (.slice bq bl bc) := by rw [hb.cell (p := ⟨w.heap.size, 3, none⟩) (World.block_lt_of_cell? _ _ f3)]; exact f3
        have g4 : wr.cell? ⟨w.heap.size, 4, none⟩ = some (.slice kq kl kc) := by rw [hb.cell (p := ⟨w.heap.size, 4, none⟩) (World.block_lt_of_cell? _ _ f4)]; exact f4
        have cR := Read_nob v wr hN i
        have cD := does_nob v wr hN op i n bq bl bc kq kl kc
        have hk3 : (k : Int) < 2 := by omega
        clear f0 f1 f2 f3 f4 hNb
        go_wp2_with fail
        refine cR.mono ?_
        rintro e w5 ⟨rfl, rfl⟩
        go_wp2_with fail
        refine cD.mono ?_
        rintro e w6 ⟨rfl, hb6⟩
        have hbw := hb.trans (hb6.mono hb.size)
        have cU := Used_nob v w6 (hN.below hb6)
        clear cR cD hN g0 g1 g2 g3 g4
        go_wp2_with fail
        refine cU.mono ?_
        rintro e w7 ⟨rfl, rfl⟩
        go_wp2_with fail
        go_roundw
        case rel => exact ⟨k + 1, by omega, by go_num, hbw⟩
        case measure => simp [intOf]; omega
      · obtain rfl : k = 2 := by omega
        have hbw := hb3.trans (hb.mono hb3.size)
        clear f0 f1 f2 f3 f4 hNb
        go_wp2_with fail
        refine (Clone_nob (.pointer none) wr (Or.inl rfl)).mono ?_
        rintro e w5 ⟨rfl, rfl⟩
        go_wp2_with fail
        refine (awake_any w5).mono ?_
        rintro e w6 ⟨rfl, hb6⟩
        go_wp2_with fail
        go_ret
        exact ⟨rfl, hbw.trans (hb6.mono hbw.size)⟩

end Go.Proofs.Ytohmjpjjmhcjgaa.M
