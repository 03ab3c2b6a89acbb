/-
  Own text: arrays of integers in a block.
-/
import Derived.Test.YtphdbpljgilcgaaDoorMem
import Derived.Test.YtphdbpljgilcgaaDoorGNum
import Derived.Laws.Tables
namespace Go.Proofs.YtphdbpljgilcgaaDoor.M
open Go.ChangeShapes Go.WideShapes Go.ChangeAt Go.RowKit

/-- Integers as cells. -/
def nums (k : IntKind) (xs : List Int) : Array Value := (xs.map (Value.int k)).toArray

theorem nums_size (k : IntKind) (xs : List Int) : (nums k xs).size = xs.length := by simp [nums]

theorem nums_one (k : IntKind) (xs : List Int) : (nums k xs).all (·.oneCell') = true := by
  rw [Array.all_eq_true]
  intro i hi
  simp [nums, Value.oneCell']

theorem nums_get (k : IntKind) (xs : List Int) {i : Nat} (h : i < xs.length) : (nums k xs)[i]? = some (.int k (xs.getD i 0)) := by
  rw [nums, List.getElem?_toArray, List.getElem?_map, List.getD_eq_getElem?_getD, List.getElem?_eq_getElem h]
  rfl

theorem nums_set (k : IntKind) (xs : List Int) (i : Nat) (x : Int) : (nums k xs).setIfInBounds i (.int k x) = nums k (xs.set i x) := by
  unfold nums
  rw [List.map_set, List.setIfInBounds_toArray]

/-- A block that holds such an array, of type t. -/
def ArrI (t : TypeId) (k : IntKind) (w : World) (g : Nat) (xs : List Int) : Prop := w.heap[g]? = some (.cells (nums k xs) t (0, 0))

theorem ArrI.cell {t : TypeId} {k : IntKind} {w : World} {g : Nat} {xs : List Int} (h : ArrI t k w g xs) {i : Nat} (hi : i < xs.length) : w.cell? ⟨g, i, none⟩ = some (.int k (xs.getD i 0)) := by
  rw [cell_of_row w g i _ _ _ h, nums_get k xs hi]

theorem ArrI.free {t : TypeId} {k : IntKind} {w : World} {g : Nat} {xs : List Int} (h : ArrI t k w g xs) (i : Nat) : w.frozen? ⟨g, i, none⟩ = false := frozen_of_row w g i _ _ h

theorem ArrI.lt {t : TypeId} {k : IntKind} {w : World} {g : Nat} {xs : List Int} (h : ArrI t k w g xs) : g < w.heap.size := (Array.getElem?_eq_some_iff.1 h).1

theorem ArrI.set {t : TypeId} {k : IntKind} {w : World} {g : Nat} {xs : List Int} (h : ArrI t k w g xs) (i : Nat) (x : Int) : ArrI t k (w.setCell ⟨g, i, none⟩ (.int k x)) g (xs.set i x) := by
  have h1 := heap_setCell_same w g i _ _ (.int k x) h
  unfold ArrI
  rw [h1]
  congr 2
  exact nums_set k xs i x

theorem ArrI.below {t : TypeId} {k : IntKind} {w w' : World} {g : Nat} {xs : List Int} (h : ArrI t k w g xs) (hb : Below w.heap.size w w') : ArrI t k w' g xs := by
  unfold ArrI
  rw [hb.block g h.lt]
  exact h

theorem ArrI.belowOf {t : TypeId} {k : IntKind} {w w' : World} {g B : Nat} {xs : List Int} (h : ArrI t k w g xs) (hb : Below B w w') (hg : g < B) : ArrI t k w' g xs := by
  unfold ArrI
  rw [hb.block g hg]
  exact h

theorem ArrI.setRow {t : TypeId} {k : IntKind} {w : World} {g : Nat} {xs : List Int} (h : ArrI t k w g xs) (ys : List Int) : ArrI t k (w.setRow g (nums k ys)) g ys := by
  unfold ArrI World.setRow
  rw [Array.getElem?_modify, if_pos rfl, h]
  rfl

theorem ArrI.other {t : TypeId} {k : IntKind} {w : World} {g : Nat} {xs : List Int} (h : ArrI t k w g xs) (b i : Nat) (v : Value) (hne : b ≠ g) : ArrI t k (w.setCell ⟨b, i, none⟩ v) g xs := by
  unfold ArrI
  rw [Below.heap_setCell _ _ _ _ (by simpa using fun e => hne e.symm)]
  exact h

theorem ArrI.rowOther {t : TypeId} {k : IntKind} {w : World} {g : Nat} {xs : List Int} (h : ArrI t k w g xs) (b : Nat) (cs : Array Value) (hne : g ≠ b) : ArrI t k (w.setRow b cs) g xs := by
  unfold ArrI
  rw [setRow_other w b g cs hne]
  exact h

theorem below_setRow (w : World) (g : Nat) (cs : Array Value) {B : Nat} (h : B ≤ g) : Below B w (w.setRow g cs) := by
  refine ⟨rfl, rfl, rfl, by simp [World.setRow], fun k hk => ?_⟩
  unfold World.setRow
  simp only [Array.getElem?_modify]
  rw [if_neg (by omega)]

theorem below_alloc (w : World) (o : Obj) : Below w.heap.size w (w.alloc o) := (Below.refl _ _).alloc (Nat.le_refl _) o

theorem ArrI.new (t : TypeId) (k : IntKind) (w : World) (xs : List Int) : ArrI t k (w.alloc (.cells (nums k xs) t)) w.heap.size xs := heap_alloc_new _ _

theorem ArrI.alloc {t : TypeId} {k : IntKind} {w : World} {g : Nat} {xs : List Int} (h : ArrI t k w g xs) (o : Obj) : ArrI t k (w.alloc o) g xs := h.below (below_alloc w o)

theorem info_nums {P : Program} {t : TypeId} (k : IntKind) (xs : List Int) {n : Nat} (hi : (P.info? t).map (·.size) = some n) (h : xs.length = n) : (P.info? t).map (·.size) = some (nums k xs).size := by
  rw [nums_size, h]
  exact hi

end Go.Proofs.YtphdbpljgilcgaaDoor.M
