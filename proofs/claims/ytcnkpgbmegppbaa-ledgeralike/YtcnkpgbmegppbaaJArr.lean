/-
  Own text: blocks of cells, as they lie.
-/
import Derived.Test.YtcnkpgbmegppbaaPut
import Derived.Laws.Tables
import Derived.Test.YtcnkpgbmegppbaaYSort
namespace Go.Proofs.Ytcnkpgbmegppbaa.M
open Go.ChangeShapes Go.WideShapes Go.ChangeAt Go.RowKit

theorem results_row_tmp {P : Program} {fn : Func} {p u : Tmp} {ty : TypeId} (h : fn.results = #[.cell p ty, .tmp u]) (tmps : Array Value) (w : World) (g : Nat) (t : TypeId) (cs : Array Value) (d : TypeDesc)
    (hp : tmps.getD p undef = .pointer (some ⟨g, 0, none⟩)) (hg : w.heap[g]? = some (.cells cs t (0, 0)))
    (hu : P.underlying ty = some d) (hd : (match d with | .struct _ | .array _ _ => true | _ => false) = true) (hi : (P.info? ty).map (·.size) = some cs.size) :
    (results fn tmps).run P w = .ok (.tuple #[.agg cs, tmps.getD u undef]) w := by
  have hp' : tmps[p]?.getD undef = .pointer (some ⟨g, 0, none⟩) := by simpa using hp
  simp [results, h, hp', asAddr, run_loadVar_row w g t ty cs (0, 0) d hg hu hd hi]

/-- A block that holds such cells. -/
def At (t : TypeId) (w : World) (g : Nat) (cs : Array Value) : Prop := w.heap[g]? = some (.cells cs t (0, 0))

theorem At.new (t : TypeId) (w : World) (cs : Array Value) : At t (w.alloc (.cells cs t)) w.heap.size cs := heap_alloc_new _ _

theorem At.lt {t : TypeId} {w : World} {g : Nat} {cs : Array Value} (h : At t w g cs) : g < w.heap.size := (Array.getElem?_eq_some_iff.1 h).1

theorem At.below {t : TypeId} {w w' : World} {g : Nat} {cs : Array Value} (h : At t w g cs) (hb : Below w.heap.size w w') : At t w' g cs := by
  unfold At
  rw [hb.block g h.lt]
  exact h

theorem At.alloc {t : TypeId} {w : World} {g : Nat} {cs : Array Value} (h : At t w g cs) (o : Obj) : At t (w.alloc o) g cs := h.below (below_alloc w o)

theorem At.cell {t : TypeId} {w : World} {g : Nat} {cs : Array Value} (h : At t w g cs) (i : Nat) : w.cell? ⟨g, i, none⟩ = cs[i]? := cell_of_row w g i _ _ _ h

theorem At.free {t : TypeId} {w : World} {g : Nat} {cs : Array Value} (h : At t w g cs) (i : Nat) : w.frozen? ⟨g, i, none⟩ = false := frozen_of_row w g i _ _ h

theorem At.moved {t : TypeId} {w : World} {g g2 : Nat} {cs : Array Value} (e : g = g2) (h : At t w g cs) : At t w g2 cs := e ▸ h

theorem At.three {t : TypeId} {w : World} {g : Nat} {x y z : Value} (h : At t w g #[x, y, z]) : w.cell? ⟨g, 0, none⟩ = some x ∧ w.cell? ⟨g, 1, none⟩ = some y ∧ w.cell? ⟨g, 2, none⟩ = some z := ⟨h.cell 0, h.cell 1, h.cell 2⟩

theorem At.two {t : TypeId} {w : World} {g : Nat} {x y : Value} (h : At t w g #[x, y]) : w.cell? ⟨g, 0, none⟩ = some x ∧ w.cell? ⟨g, 1, none⟩ = some y := ⟨h.cell 0, h.cell 1⟩

theorem At.ex {t : TypeId} {w w' : World} {g x : Nat} {cs : Array Value} (h : At t w g cs) (he : Ex x w w') (hne : g ≠ x) : At t w' g cs := by
  unfold At
  rw [he.block g h.lt hne]
  exact h

theorem At.four {t : TypeId} {w : World} {g : Nat} {x y z u : Value} (h : At t w g #[x, y, z, u]) : w.cell? ⟨g, 0, none⟩ = some x ∧ w.cell? ⟨g, 1, none⟩ = some y ∧ w.cell? ⟨g, 2, none⟩ = some z ∧ w.cell? ⟨g, 3, none⟩ = some u := ⟨h.cell 0, h.cell 1, h.cell 2, h.cell 3⟩

theorem At.one {t : TypeId} {w : World} {g : Nat} {x : Value} (h : At t w g #[x]) : w.cell? ⟨g, 0, none⟩ = some x := h.cell 0

theorem At.put4 {t : TypeId} {w : World} {g B : Nat} {x y z u : Value} (h : At t w g #[x, y, z, u]) (hB : B ≤ g) (w0 : World) (hb : Below B w0 w) (a b c d : Value) :
    ∃ W, W = (((w.setCell ⟨g, 0, none⟩ a).setCell ⟨g, 1, none⟩ b).setCell ⟨g, 2, none⟩ c).setCell ⟨g, 3, none⟩ d ∧ At t W g #[a, b, c, d] ∧ Below B w0 W := by
  refine ⟨_, rfl, ?_, ?_⟩
  · unfold At at *
    have h1 := heap_setCell_same w g 0 _ _ a h
    have h2 := heap_setCell_same _ g 1 _ _ b h1
    have h3 := heap_setCell_same _ g 2 _ _ c h2
    have h4 := heap_setCell_same _ g 3 _ _ d h3
    exact h4
  · have e := Ex.setC (g := g) (w := w) [a, b, c, d] 0 w (Ex.refl _ _)
    exact hb.trans (e.below hB h.lt)

end Go.Proofs.Ytcnkpgbmegppbaa.M
