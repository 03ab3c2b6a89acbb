/-
  Own text: the contract of slices.Insert of one member: the two roads ahead of the end, and all roads.
-/
import Derived.Test.YtdjeafaaclhpkabDoorYIns
namespace Go.Proofs.YtdjeafaaclhpkabDoor.M
open Go.ChangeShapes Go.WideShapes Go.ChangeAt Go.RowKit

theorem shape_row {w : World} {g : Nat} {cs : Array Value} {t : TypeId} {fz : Nat × Nat} (h : w.heap[g]? = some (.cells cs t fz)) : w.shape? g = some (t, cs.size) := by
  unfold World.shape?
  rw [h]

theorem drew_setC (b : Nat) : ∀ (vs : List Value) (o : Nat) (w : World), w.drew.setCells b o vs = (w.setCells b o vs).drew
  | [], _, _ => rfl
  | v :: r, o, w => by rw [World.setCells, World.setCells, ← drew_setC b r]; rfl

theorem zeroC_size (z : Array Value) (k : Nat) : (Builtin.zeroCells z k).size = k * z.size := by simp [Builtin.zeroCells]

end Go.Proofs.YtdjeafaaclhpkabDoor.M
