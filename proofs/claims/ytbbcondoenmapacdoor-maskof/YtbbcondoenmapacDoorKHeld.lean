/-
  Own text: what is kept while a statement with calls and loads is carried out: an array of yes and no, and all that was there before.
-/
import Derived.Test.YtbbcondoenmapacDoorKRef
import Derived.Deep.RegionHeld3
namespace Go.Proofs.YtbbcondoenmapacDoor.M
open Go.ChangeShapes Go.WideShapes Go.ChangeAt Go.RowKit

theorem Arr.range {w : World} {g : Nat} {bs : List Bool} (h : Arr w g bs) : w.rangeAt g 0 (bs.map Value.bool) := by
  intro j v hj
  have := cell_of_row w g j _ _ _ h
  rw [Nat.zero_add, this, bools, List.getElem?_toArray]
  exact hj

theorem range_below {w w' : World} {g o : Nat} {cs : List Value} (h : w.rangeAt g o cs) (hb : Below w.heap.size w w') : w'.rangeAt g o cs := by
  intro j v hj
  have h1 := h j v hj
  rw [hb.cell (p := ⟨g, o + j, none⟩) (World.block_lt_of_cell? _ _ h1)]
  exact h1

/-- The arrays lie in their blocks, and what was there is as it was. -/
def Keep (w : World) (l : List (Nat × List Value)) (W : World) : Prop := (∀ a ∈ l, W.rangeAt a.1 0 a.2) ∧ Below w.heap.size w W

theorem Keep.at {w : World} {l : List (Nat × List Value)} {W : World} (h : Keep w l W) (i : Nat) {a : Nat × List Value} (hi : l[i]? = some a) : W.rangeAt a.1 0 a.2 := h.1 a (List.mem_of_getElem? hi)

theorem Keep.drew {w : World} {l : List (Nat × List Value)} {W : World} (h : Keep w l W) : Keep w l W.drew := ⟨fun a ha => (World.rangeAt_drew _ _ _ _).2 (h.1 a ha), h.2.drew⟩

theorem Keep.below {w : World} {l : List (Nat × List Value)} {W W' : World} (h : Keep w l W) (hb : Below W.heap.size W W') : Keep w l W' := ⟨fun a ha => range_below (h.1 a ha) hb, h.2.trans (hb.mono h.2.size)⟩

theorem keep_same {w : World} {l : List (Nat × List Value)} {P : Program} {f : FuncId} {args : Array Value} {v : Value} {W : World} (hS : Keep w l W) (c : Calls P f args W fun e w' => e = .returned v ∧ w' = W) : Calls P f args W fun e w' => e = .returned v ∧ Keep w l w' :=
  c.mono (by rintro e w' ⟨rfl, rfl⟩; exact ⟨rfl, hS⟩)

theorem keep_below {w : World} {l : List (Nat × List Value)} {P : Program} {f : FuncId} {args : Array Value} {v : Value} {W : World} (hS : Keep w l W) (c : Calls P f args W fun e w' => e = .returned v ∧ Below W.heap.size W w') : Calls P f args W fun e w' => e = .returned v ∧ Keep w l w' :=
  c.mono (by rintro e w' ⟨rfl, hb⟩; exact ⟨rfl, hS.below hb⟩)

end Go.Proofs.YtbbcondoenmapacDoor.M
