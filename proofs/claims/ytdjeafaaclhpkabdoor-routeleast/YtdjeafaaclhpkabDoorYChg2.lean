/-
  Own text: what becomes of a chain: contracts of layout's DropSite, behind, Again, Ready.
-/
import Derived.Test.YtdjeafaaclhpkabDoorYChg
namespace Go.Proofs.YtdjeafaaclhpkabDoor.M
open Go.ChangeShapes Go.WideShapes Go.ChangeAt Go.RowKit

/-- A chain in a box b, and the box r of a chain that is answered. -/
structure Gr (W : World) (b r : Nat) (e : Int) (p : Option Addr) (n c : Nat) : Prop where
  a0 : W.cell? ⟨b, 0, none⟩ = some (.int .i64 e)
  a1 : W.cell? ⟨b, 1, none⟩ = some (.slice p n c)
  b0 : W.cell? ⟨r, 0, none⟩ = some (.int .i64 0)
  b1 : W.cell? ⟨r, 1, none⟩ = some (.slice none 0 0)
  f0 : W.frozen? ⟨r, 0, none⟩ = false
  f1 : W.frozen? ⟨r, 1, none⟩ = false
  lt : r < W.heap.size
  br : b < r

theorem Gr.low {W W' : World} {B b r : Nat} {e : Int} {p : Option Addr} {n c : Nat} (h : Gr W b r e p n c) (hb : Below B W W') (hB : r < B) : Gr W' b r e p n c :=
  ⟨(hb.cell (p := ⟨b, 0, none⟩) (Nat.lt_trans h.br hB)).trans h.a0, (hb.cell (p := ⟨b, 1, none⟩) (Nat.lt_trans h.br hB)).trans h.a1, (hb.cell (p := ⟨r, 0, none⟩) hB).trans h.b0, (hb.cell (p := ⟨r, 1, none⟩) hB).trans h.b1, (hb.frozen (p := ⟨r, 0, none⟩) hB).trans h.f0, (hb.frozen (p := ⟨r, 1, none⟩) hB).trans h.f1, Nat.lt_of_lt_of_le h.lt hb.size, h.br⟩

theorem Gr.below {W W' : World} {b r : Nat} {e : Int} {p : Option Addr} {n c : Nat} (h : Gr W b r e p n c) (hb : Below W.heap.size W W') : Gr W' b r e p n c := h.low hb h.lt

theorem Gr.put0 {W : World} {b r : Nat} {e : Int} {p : Option Addr} {n c : Nat} (h : Gr W b r e p n c) (x y : Value) : ((W.setCell ⟨r, 0, none⟩ x).setCell ⟨r, 1, none⟩ y).cell? ⟨r, 0, none⟩ = some x := by
  rw [World.cell?_setCell_other (h := by simp), World.cell?_setCell_same (h := h.b0)]

theorem Gr.put1 {W : World} {b r : Nat} {e : Int} {p : Option Addr} {n c : Nat} (h : Gr W b r e p n c) (x y : Value) : ((W.setCell ⟨r, 0, none⟩ x).setCell ⟨r, 1, none⟩ y).cell? ⟨r, 1, none⟩ = some y := by
  have e1 : (W.setCell ⟨r, 0, none⟩ x).cell? ⟨r, 1, none⟩ = some (.slice none 0 0) := by
    rw [World.cell?_setCell_other (h := by simp)]
    exact h.b1
  rw [World.cell?_setCell_same (h := e1)]

theorem Gr.putB {W : World} {b r : Nat} {w : World} (h : Below b w W) (hr : b ≤ r) (x y : Value) : Below b w ((W.setCell ⟨r, 0, none⟩ x).setCell ⟨r, 1, none⟩ y) := (h.setCell hr x).setCell hr y

theorem Gr.new1 (w : World) (e : Int) (p : Option Addr) (n c : Nat) : Gr ((w.alloc (.cells #[.int .i64 e, .slice p n c] 31)).alloc (.cells #[.int .i64 0, .slice none 0 0] 31)) w.heap.size (w.heap.size + 1) e p n c :=
  ⟨by simp, by simp, by simp, by simp, by simp, by simp, by simp, by simp⟩

theorem rows3 (w : World) (o1 o2 o3 : Obj) : (((w.alloc o1).alloc o2).alloc o3).heap[w.heap.size]? = some o1 ∧ (((w.alloc o1).alloc o2).alloc o3).heap[w.heap.size + 1]? = some o2 ∧ (((w.alloc o1).alloc o2).alloc o3).heap[w.heap.size + 1 + 1]? = some o3 := by
  have s1 : (w.alloc o1).heap.size = w.heap.size + 1 := by simp
  have s2 : ((w.alloc o1).alloc o2).heap.size = w.heap.size + 1 + 1 := by simp
  refine ⟨?_, ?_, ?_⟩
  · rw [Below.heap_alloc _ _ _ (by omega), Below.heap_alloc _ _ _ (by omega)]
    exact heap_alloc_new _ _
  · rw [Below.heap_alloc _ _ _ (by omega), ← s1]
    exact heap_alloc_new _ _
  · rw [← s2]
    exact heap_alloc_new _ _

theorem cell_row {w : World} {b : Nat} {cs : Array Value} {t : TypeId} (h : w.heap[b]? = some (.cells cs t)) {j : Nat} {v : Value} (hj : cs[j]? = some v) : w.cell? ⟨b, j, none⟩ = some v := by
  unfold World.cell?
  dsimp only
  rw [h]
  exact hj

theorem Gr.new2 (w : World) (e : Int) (p : Option Addr) (n c : Nat) (o : Obj) : Gr (((w.alloc (.cells #[.int .i64 e, .slice p n c] 31)).alloc o).alloc (.cells #[.int .i64 0, .slice none 0 0] 31)) w.heap.size (w.heap.size + 1 + 1) e p n c := by
  obtain ⟨r0, _, r2⟩ := rows3 w (.cells #[.int .i64 e, .slice p n c] 31) o (.cells #[.int .i64 0, .slice none 0 0] 31)
  exact ⟨cell_row r0 rfl, cell_row r0 rfl, cell_row r2 rfl, cell_row r2 rfl, frozen_of_row _ _ _ _ _ r2, frozen_of_row _ _ _ _ _ r2, (Array.getElem?_eq_some_iff.1 r2).1, by omega⟩

/-- The place behind the last one whose site is not greater. -/
def behM (ms : List Mb) (site : Int) : Int := if ixM (fun m => decide (site < m.s)) 0 ms = -1 then (ms.length : Int) else ixM (fun m => decide (site < m.s)) 0 ms

theorem behM_bounds (ms : List Mb) (site : Int) : 0 ≤ behM ms site ∧ behM ms site ≤ ms.length := by
  unfold behM
  have := ixM_bounds (fun m => decide (site < m.s)) ms 0
  split <;> omega

/-- The same chain in the next epoch. -/
def againR (e : Int) (ms : List Mb) (node : Int) : CR :=
  if chk e ms = false then .error 80 else if hasN (thN (fun _ => true) 0 ms) node = false then .error 81 else if 1099511627776 ≤ e then .error 5 else .ok (e + 1, ms)

theorem Copy.tell {w : World} {B n : Nat} {ms : List Mb} {v : Value} (h : Copy w B n ms v) (hl : ms.length = n) : ∃ q c, v = .slice q n c ∧ (∀ a, q = some a → 0 < n → B ≤ a.block) ∧ RdM w q n c ms := by
  rcases h with ⟨rfl, q, rfl⟩ | ⟨h0, ho⟩
  · exact ⟨q, 0, rfl, fun _ _ h => absurd h (Nat.lt_irrefl _), hl, Nat.le_refl _, fun _ => rfl, fun h => absurd h (Nat.lt_irrefl _)⟩
  · obtain ⟨g, cap, rfl, hg, hr⟩ := Row.of_owns ho hl h0
    exact ⟨_, _, rfl, fun a ha _ => by cases ha; exact hg, hl ▸ hr.rd⟩

theorem Row.far {w : World} {g N b j : Nat} {L : List Mb} (h : Row w g N L) (hb : b ≠ g) (v : Value) : Row (w.setCell ⟨b, j, none⟩ v) g N L := by
  have e : ∀ i, (w.setCell ⟨b, j, none⟩ v).cell? ⟨g, i, none⟩ = w.cell? ⟨g, i, none⟩ := fun i => World.cell?_setCell_other _ _ _ _ (fun h => hb (congrArg Addr.block h))
  exact ⟨by simpa using h.lt, h.le, fun i hi => ⟨by rw [e]; exact (h.there i hi).1, by rw [World.frozen?_setCell]; exact (h.there i hi).2⟩, fun i hi => by rw [e]; exact h.cells i hi⟩

theorem Row.flag {w : World} {g N k : Nat} {L : List Mb} (h : Row w g N L) (hk : k < L.length) {mn ms : Int} {mf : Bool} (hm : L.getD k .z0 = ⟨mn, ms, mf⟩) (f : Bool) : Row (w.setCell ⟨g, k * 3 + 2, none⟩ (.bool f)) g N (L.set k ⟨mn, ms, f⟩) := by
  have h2 := (h.at hk).2.2
  refine ⟨by simpa using h.lt, by rw [List.length_set]; exact h.le, fun i hi => ⟨?_, by rw [World.frozen?_setCell]; exact (h.there i hi).2⟩, fun i hi => ?_⟩
  · obtain ⟨v, hv⟩ := Option.isSome_iff_exists.1 (h.there i hi).1
    obtain ⟨v', hv'⟩ := cell?_setCell_some (p := ⟨g, k * 3 + 2, none⟩) (x := .bool f) hv
    rw [hv']; rfl
  · rw [List.length_set] at hi
    by_cases he : i = k * 3 + 2
    · subst he
      rw [World.cell?_setCell_same (h := h2), cellAt_2, getD_set hk, if_pos rfl]
    · rw [World.cell?_setCell_other (h := fun hx => he (congrArg Addr.off hx).symm), h.cells i hi]
      have e3 : i = i / 3 * 3 + i % 3 := by omega
      have hr : i % 3 < 3 := Nat.mod_lt _ (by decide)
      by_cases hik : i / 3 = k
      · have hg : (L.set k ⟨mn, ms, f⟩).getD k .z0 = ⟨mn, ms, f⟩ := by rw [getD_set hk, if_pos rfl]
        rw [e3, hik]
        have hr2 : i % 3 < 2 := by omega
        generalize i % 3 = r at hr2
        match r, hr2 with
        | 0, _ => rw [Nat.add_zero, cellAt_0, cellAt_0, hm, hg]
        | 1, _ => rw [cellAt_1, cellAt_1, hm, hg]
      · rw [e3]
        exact congrArg some (cellAt_shift (by rw [getD_set hk, if_neg hik]) hr)

/-- The same chain, in which a node has all. -/
def readyR (e : Int) (ms : List Mb) (node : Int) : CR :=
  if chk e ms = false then .error 80 else
  if plc e ms node = -1 ∨ (ms.getD (plc e ms node).toNat .z0).f = false then .error 81 else
  .ok (e, ms.set (plc e ms node).toNat { ms.getD (plc e ms node).toNat .z0 with f := false })

end Go.Proofs.YtdjeafaaclhpkabDoor.M
