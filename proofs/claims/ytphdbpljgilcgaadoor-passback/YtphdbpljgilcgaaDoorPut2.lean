/-
  Own text: contracts of slices.Clone, of the program's PutInts, PutBool, PutBytes and of the reference's Put, Ints, Bool, Bytes.
-/
import Derived.Test.YtphdbpljgilcgaaDoorPut
import Derived.Test.YtphdbpljgilcgaaDoorTurn
import Derived.WalkSpells
namespace Go.Proofs.YtphdbpljgilcgaaDoor.M
open Go.ChangeShapes Go.WideShapes Go.ChangeAt Go.RowKit

/-- Each number is an int's. -/
def Sg (l : List Int) : Prop := ∀ x ∈ l, -9223372036854775808 ≤ x ∧ x ≤ 9223372036854775807

/-- The bytes of several numbers with signs. -/
def intAll (l : List Int) : List Int := putAll (l.map zig)

theorem Wd.zig {l : List Int} (h : Sg l) : Wd (l.map zig) := by
  intro x hx
  obtain ⟨y, hy, rfl⟩ := List.mem_map.1 hx
  exact zig_bd y (h y hy).1 (h y hy).2

theorem intAll_snoc {l : List Int} {k : Nat} (h : k < l.length) : intAll (l.take (k + 1)) = intAll (l.take k) ++ putL (zig (l.getD k 0)).toNat := by
  unfold intAll
  rw [take_snoc h, List.map_append, putAll_app]
  simp [putAll]

theorem intAll_len {l : List Int} (h : Sg l) : (intAll l).length ≤ 10 * l.length := by
  have := putAll_len (Wd.zig h)
  rw [List.length_map] at this
  exact this

theorem Sg.take {l : List Int} (h : Sg l) (k : Nat) : Sg (l.take k) := fun x hx => h x (List.mem_of_mem_take hx)

theorem Wd.one {x : Int} (h0 : 0 ≤ x) (h : x < 18446744073709551616) : Wd [x] := fun y hy => by
  obtain rfl : y = x := by simpa using hy
  exact ⟨h0, h⟩

/-- Whether something is so, as a number. -/
def yesN (b : Bool) : Int := if b then 1 else 0

end Go.Proofs.YtphdbpljgilcgaaDoor.M
