/-
  Own text: contracts of the program's records (putSum, Seal, the errors of chunk and Open) and of the reference's Seal.
-/
import Derived.Test.YtphdbpljgilcgaaDoorRef
import Derived.Test.YtphdbpljgilcgaaDoorNum
namespace Go.Proofs.YtphdbpljgilcgaaDoor.M
open Go.ChangeShapes Go.WideShapes Go.ChangeAt Go.RowKit

/-- Four bytes, the highest first. -/
def sum4 (s : Nat) : List Int := [((s / 16777216 % 256 : Nat) : Int), ((s / 65536 % 256 : Nat) : Int), ((s / 256 % 256 : Nat) : Int), ((s % 256 : Nat) : Int)]

/-- The record of bytes. -/
def sealL (ys : List Int) : List Int := (putL ys.length ++ ys) ++ sum4 (sumN (putL ys.length ++ ys))

theorem sum4_by (s : Nat) : By (sum4 s) := By.cons (by omega) (By.cons (by omega) (By.cons (by omega) (By.cons (by omega) By.nil)))

theorem sealL_by {ys : List Int} (h : By ys) : By (sealL ys) := By.app (By.app (putL_by _) h) (sum4_by _)

theorem Rd.list (k : IntKind) (w : World) (e : TypeId) (zs : List Int) : Rd k (w.alloc (.cells (zs.map (Value.int k)).toArray e)) (some ⟨w.heap.size, 0, none⟩) zs.length zs.length zs := by
  refine ⟨rfl, Nat.le_refl _, (fun h => by cases h), fun _ => ⟨w.heap.size, 0, rfl, fun i hi => ?_⟩⟩
  rw [cell_of_row _ w.heap.size (0 + i) _ e (0, 0) (heap_alloc_new w _)]
  rw [Nat.zero_add, List.getElem?_toArray, List.getElem?_map, List.getD_eq_getElem?_getD, List.getElem?_eq_getElem hi]
  rfl

theorem Rd.four (k : IntKind) (w : World) (e : TypeId) (a b c d : Int) : Rd k (w.alloc (.cells #[.int k a, .int k b, .int k c, .int k d] e)) (some ⟨w.heap.size, 0, none⟩) 4 4 [a, b, c, d] := Rd.list k w e [a, b, c, d]

theorem sum4_eq (s : Nat) (h : s < 4294967296) : sum4 s = [(s : Int) / 16777216, (s : Int) / 65536 % 256, (s : Int) / 256 % 256, (s : Int) % 256] := by
  unfold sum4
  rw [show ((s / 16777216 % 256 : Nat) : Int) = (s : Int) / 16777216 by omega]
  rfl

end Go.Proofs.YtphdbpljgilcgaaDoor.M
