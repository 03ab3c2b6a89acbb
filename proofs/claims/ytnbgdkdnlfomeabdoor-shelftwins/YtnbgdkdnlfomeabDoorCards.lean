/-
  DERIVED. GIVEN WITH THE SEED: THE CARDS: each row of YtnbgdkdnlfomeabDoorRows.lean that lists a variable, with what it lists TIED to the program's text (the seventh form; the later family's looks); each row that meets fmt, with fmt's text TOLD by the authors' own Lean function (tested against real Go, not proved from fmt's source: count such statements apart). THE CARD IS WHAT COUNTS. Prove the row's statement (the work); the ties are given (YtnbgdkdnlfomeabDoorTie.lean); close each card by the builder's one call (the guide's Derived/Test/ToyasCard.lean, 'card_holds'). Laid BY PROGRAM, IN A SANDBOX (cutbox-door.mjs). By AI agents, Wed Nov 11 2026. No macro, syntax, notation, axiom, sorry.
-/
import Derived.Test.YtnbgdkdnlfomeabDoorRows
import GoSem.ClaimSeven
namespace Go.Proofs.YtnbgdkdnlfomeabDoor
namespace Rows

/-- THE TIED CARD OF 'towlinelaw09.ShelfTwins'. -/
def shelfTwinsCard : Claim7 := { stood := { row := shelfTwinsRow, standIns := [], harness := (true, "99fb6d1fa89eeb10d4328de89e25bd63d1032c9e98486f0aa8473915abba4e5b"), looks := true }, kinds := [], alts := [], laidByText := true, laidKinds := [.data, .pinned], laidTests := true, laidLooks := .later }
def ShelfTwinsCardSaid : Prop := Claim7.holds Tryd.pinned (.plain (OpenSpec.ofChange shelfTwinsSpec)) shelfTwinsCard

/-- THE TIED CARD OF 'towlinelaw09.ShelfNobody'. -/
def shelfNobodyCard : Claim7 := { stood := { row := shelfNobodyRow, standIns := [], harness := (true, "99fb6d1fa89eeb10d4328de89e25bd63d1032c9e98486f0aa8473915abba4e5b"), looks := true }, kinds := [], alts := [], laidByText := true, laidKinds := [.data, .pinned], laidTests := true, laidLooks := .later }
def ShelfNobodyCardSaid : Prop := Claim7.holds Tryd.pinned (.plain (OpenSpec.ofChange shelfNobodySpec)) shelfNobodyCard

/-- THE SECOND FORM's CARD OF 'towlinelaw09.ShelfTwins'. -/
def shelfTwinsUptoCard : Claim7 := { stood := { row := shelfTwinsUptoRow, standIns := [], harness := (true, "99fb6d1fa89eeb10d4328de89e25bd63d1032c9e98486f0aa8473915abba4e5b"), looks := true }, kinds := [], alts := [], laidByText := true, laidKinds := [.data, .pinned], laidTests := true, laidLooks := .later }
def ShelfTwinsUptoCardSaid : Prop := Claim7.holds Tryd.pinned (.plain (OpenSpec.upto shelfTwinsSpec)) shelfTwinsUptoCard

/-- THE SECOND FORM's CARD OF 'towlinelaw09.ShelfNobody'. -/
def shelfNobodyUptoCard : Claim7 := { stood := { row := shelfNobodyUptoRow, standIns := [], harness := (true, "99fb6d1fa89eeb10d4328de89e25bd63d1032c9e98486f0aa8473915abba4e5b"), looks := true }, kinds := [], alts := [], laidByText := true, laidKinds := [.data, .pinned], laidTests := true, laidLooks := .later }
def ShelfNobodyUptoCardSaid : Prop := Claim7.holds Tryd.pinned (.plain (OpenSpec.upto shelfNobodySpec)) shelfNobodyUptoCard
end Rows
end Go.Proofs.YtnbgdkdnlfomeabDoor
