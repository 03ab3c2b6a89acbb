/-
  Own text: arrays of integers in a block.
-/
import Derived.Test.YtmfmjoibofadlaaMem
import Derived.WalkSmall
import Derived.Laws.Tables
namespace Go.Proofs.Ytmfmjoibofadlaa.M
open Go.ChangeShapes Go.WideShapes Go.ChangeAt Go.RowKit

/-- Integers as cells. -/
def nums (k : IntKind) (xs : List Int) : Array Value := (xs.map (Value.int k)).toArray

theorem nums_size (k : IntKind) (xs : List Int) : (nums k xs).size = xs.length := by simp [nums]

theorem nums_one (k : IntKind) (xs : List Int) : (nums k xs).all (·.oneCell') = true := by
  rw [Array.all_eq_true]
  intro i hi
  simp [nums, Value.oneCell']

theorem nums_get (k : IntKind) (xs : List Int) {i : Nat} (h : i < xs.length) : (nums k xs)[i]? = some (.int k (xs.getD i 0)) := by
  rw [nums, List.getElem?_toArray, List.getElem?_map, List.getD_eq_getElem?_getD, List.getElem?_eq_getElem h]
  rfl

theorem nums_set (k : IntKind) (xs : List Int) (i : Nat) (x : Int) : (nums k xs).setIfInBounds i (.int k x) = nums k (xs.set i x) := by
  unfold nums
  rw [List.map_set, List.setIfInBounds_toArray]

/-- A block that holds such an array, of type t. -/
def ArrI (t : TypeId) (k : IntKind) (w : World) (g : Nat) (xs : List Int) : Prop := w.heap[g]? = some (.cells (nums k xs) t (0, 0))

theorem ArrI.cell {t : TypeId} {k : IntKind} {w : World} {g : Nat} {xs : List Int} (h : ArrI t k w g xs) {i : Nat} (hi : i < xs.length) : w.cell? ⟨g, i, none⟩ = some (.int k (xs.getD i 0)) := by
  rw [cell_of_row w g i _ _ _ h, nums_get k xs hi]

theorem ArrI.free {t : TypeId} {k : IntKind} {w : World} {g : Nat} {xs : List Int} (h : ArrI t k w g xs) (i : Nat) : w.frozen? ⟨g, i, none⟩ = false := frozen_of_row w g i _ _ h

theorem ArrI.lt {t : TypeId} {k : IntKind} {w : World} {g : Nat} {xs : List Int} (h : ArrI t k w g xs) : g < w.heap.size := (Array.getElem?_eq_some_iff.1 h).1

theorem ArrI.set {t : TypeId} {k : IntKind} {w : World} {g : Nat} {xs : List Int} (h : ArrI t k w g xs) (i : Nat) (x : Int) : ArrI t k (w.setCell ⟨g, i, none⟩ (.int k x)) g (xs.set i x) := by
  have h1 := heap_setCell_same w g i _ _ (.int k x) h
  unfold ArrI
  rw [h1]
  congr 2
  exact nums_set k xs i x

theorem ArrI.below {t : TypeId} {k : IntKind} {w w' : World} {g : Nat} {xs : List Int} (h : ArrI t k w g xs) (hb : Below w.heap.size w w') : ArrI t k w' g xs := by
  unfold ArrI
  rw [hb.block g h.lt]
  exact h

theorem ArrI.belowOf {t : TypeId} {k : IntKind} {w w' : World} {g B : Nat} {xs : List Int} (h : ArrI t k w g xs) (hb : Below B w w') (hg : g < B) : ArrI t k w' g xs := by
  unfold ArrI
  rw [hb.block g hg]
  exact h

theorem ArrI.setRow {t : TypeId} {k : IntKind} {w : World} {g : Nat} {xs : List Int} (h : ArrI t k w g xs) (ys : List Int) : ArrI t k (w.setRow g (nums k ys)) g ys := by
  unfold ArrI World.setRow
  rw [Array.getElem?_modify, if_pos rfl, h]
  rfl

theorem ArrI.other {t : TypeId} {k : IntKind} {w : World} {g : Nat} {xs : List Int} (h : ArrI t k w g xs) (b i : Nat) (v : Value) (hne : b ≠ g) : ArrI t k (w.setCell ⟨b, i, none⟩ v) g xs := by
  unfold ArrI
  rw [Below.heap_setCell _ _ _ _ (by simpa using fun e => hne e.symm)]
  exact h

theorem ArrI.rowOther {t : TypeId} {k : IntKind} {w : World} {g : Nat} {xs : List Int} (h : ArrI t k w g xs) (b : Nat) (cs : Array Value) (hne : g ≠ b) : ArrI t k (w.setRow b cs) g xs := by
  unfold ArrI
  rw [setRow_other w b g cs hne]
  exact h

theorem below_setRow (w : World) (g : Nat) (cs : Array Value) {B : Nat} (h : B ≤ g) : Below B w (w.setRow g cs) := by
  refine ⟨rfl, rfl, rfl, by simp [World.setRow], fun k hk => ?_⟩
  unfold World.setRow
  simp only [Array.getElem?_modify]
  rw [if_neg (by omega)]

theorem below_alloc (w : World) (o : Obj) : Below w.heap.size w (w.alloc o) := (Below.refl _ _).alloc (Nat.le_refl _) o

theorem ArrI.new (t : TypeId) (k : IntKind) (w : World) (xs : List Int) : ArrI t k (w.alloc (.cells (nums k xs) t)) w.heap.size xs := heap_alloc_new _ _

theorem ArrI.alloc {t : TypeId} {k : IntKind} {w : World} {g : Nat} {xs : List Int} (h : ArrI t k w g xs) (o : Obj) : ArrI t k (w.alloc o) g xs := h.below (below_alloc w o)

theorem info_nums {P : Program} {t : TypeId} (k : IntKind) (xs : List Int) {n : Nat} (hi : (P.info? t).map (·.size) = some n) (h : xs.length = n) : (P.info? t).map (·.size) = some (nums k xs).size := by
  rw [nums_size, h]
  exact hi

theorem results_row_tmp {P : Program} {fn : Func} {p u : Tmp} {ty : TypeId} (h : fn.results = #[.cell p ty, .tmp u]) (tmps : Array Value) (w : World) (g : Nat) (t : TypeId) (cs : Array Value) (d : TypeDesc)
    (hp : tmps.getD p undef = .pointer (some ⟨g, 0, none⟩)) (hg : w.heap[g]? = some (.cells cs t (0, 0)))
    (hu : P.underlying ty = some d) (hd : (match d with | .struct _ | .array _ _ => true | _ => false) = true) (hi : (P.info? ty).map (·.size) = some cs.size) :
    (results fn tmps).run P w = .ok (.tuple #[.agg cs, tmps.getD u undef]) w := by
  have hp' : tmps[p]?.getD undef = .pointer (some ⟨g, 0, none⟩) := by simpa using hp
  simp [results, h, hp', asAddr, run_loadVar_row w g t ty cs (0, 0) d hg hu hd hi]

/-- A block that holds such cells. -/
def At (t : TypeId) (w : World) (g : Nat) (cs : Array Value) : Prop := w.heap[g]? = some (.cells cs t (0, 0))

theorem At.new (t : TypeId) (w : World) (cs : Array Value) : At t (w.alloc (.cells cs t)) w.heap.size cs := heap_alloc_new _ _

theorem At.lt {t : TypeId} {w : World} {g : Nat} {cs : Array Value} (h : At t w g cs) : g < w.heap.size := (Array.getElem?_eq_some_iff.1 h).1

theorem At.below {t : TypeId} {w w' : World} {g : Nat} {cs : Array Value} (h : At t w g cs) (hb : Below w.heap.size w w') : At t w' g cs := by
  unfold At
  rw [hb.block g h.lt]
  exact h

theorem At.alloc {t : TypeId} {w : World} {g : Nat} {cs : Array Value} (h : At t w g cs) (o : Obj) : At t (w.alloc o) g cs := h.below (below_alloc w o)

theorem At.cell {t : TypeId} {w : World} {g : Nat} {cs : Array Value} (h : At t w g cs) (i : Nat) : w.cell? ⟨g, i, none⟩ = cs[i]? := cell_of_row w g i _ _ _ h

theorem At.free {t : TypeId} {w : World} {g : Nat} {cs : Array Value} (h : At t w g cs) (i : Nat) : w.frozen? ⟨g, i, none⟩ = false := frozen_of_row w g i _ _ h

theorem At.moved {t : TypeId} {w : World} {g g2 : Nat} {cs : Array Value} (e : g = g2) (h : At t w g cs) : At t w g2 cs := e ▸ h

theorem At.three {t : TypeId} {w : World} {g : Nat} {x y z : Value} (h : At t w g #[x, y, z]) : w.cell? ⟨g, 0, none⟩ = some x ∧ w.cell? ⟨g, 1, none⟩ = some y ∧ w.cell? ⟨g, 2, none⟩ = some z := ⟨h.cell 0, h.cell 1, h.cell 2⟩

theorem At.two {t : TypeId} {w : World} {g : Nat} {x y : Value} (h : At t w g #[x, y]) : w.cell? ⟨g, 0, none⟩ = some x ∧ w.cell? ⟨g, 1, none⟩ = some y := ⟨h.cell 0, h.cell 1⟩

end Go.Proofs.Ytmfmjoibofadlaa.M
