/-
  DERIVED. GIVEN WITH THE SEED: THE CARDS: each row of YtphdbpljgilcgaaDoorRows.lean that lists a variable, with what it lists TIED to the program's text (the seventh form; the later family's looks); each row that meets fmt, with fmt's text TOLD by the authors' own Lean function (tested against real Go, not proved from fmt's source: count such statements apart). THE CARD IS WHAT COUNTS. Prove the row's statement (the work); the ties are given (YtphdbpljgilcgaaDoorTie.lean); close each card by the builder's one call (the guide's Derived/Test/ToyasCard.lean, 'card_holds'). Laid BY PROGRAM, IN A SANDBOX (cutbox-door.mjs). By AI agents, Wed Nov 11 2026. No macro, syntax, notation, axiom, sorry.
-/
import Derived.Test.YtphdbpljgilcgaaDoorRows
import GoSem.ClaimSeven
namespace Go.Proofs.YtphdbpljgilcgaaDoor
namespace Rows

/-- THE TIED CARD OF 'towlinelaw10.PassBack'. -/
def passBackCard : Claim7 := { stood := { row := passBackRow, standIns := [], harness := (true, "a38f695f06f0323d33cb1c8e799b4fd343623ad694e6aa90b6f6ebbb1b02ffc4"), looks := false }, kinds := [], alts := [], laidByText := true, laidKinds := [.data, .pinned], laidTests := true, laidLooks := .later }
def PassBackCardSaid : Prop := Claim7.holds Tryd.pinned (.plain (OpenSpec.ofChange passBackSpec)) passBackCard

/-- THE TIED CARD OF 'towlinelaw10.PassFloors'. -/
def passFloorsCard : Claim7 := { stood := { row := passFloorsRow, standIns := [], harness := (true, "a38f695f06f0323d33cb1c8e799b4fd343623ad694e6aa90b6f6ebbb1b02ffc4"), looks := false }, kinds := [], alts := [], laidByText := true, laidKinds := [.data, .pinned], laidTests := true, laidLooks := .later }
def PassFloorsCardSaid : Prop := Claim7.holds Tryd.pinned (.plain (OpenSpec.ofChange passFloorsSpec)) passFloorsCard

/-- THE TIED CARD OF 'towlinelaw10.PassJoined'. -/
def passJoinedCard : Claim7 := { stood := { row := passJoinedRow, standIns := [], harness := (true, "a38f695f06f0323d33cb1c8e799b4fd343623ad694e6aa90b6f6ebbb1b02ffc4"), looks := false }, kinds := [], alts := [], laidByText := true, laidKinds := [.data, .pinned], laidTests := true, laidLooks := .later }
def PassJoinedCardSaid : Prop := Claim7.holds Tryd.pinned (.plain (OpenSpec.ofChange passJoinedSpec)) passJoinedCard

/-- THE SECOND FORM's CARD OF 'towlinelaw10.PassBack'. -/
def passBackUptoCard : Claim7 := { stood := { row := passBackUptoRow, standIns := [], harness := (true, "a38f695f06f0323d33cb1c8e799b4fd343623ad694e6aa90b6f6ebbb1b02ffc4"), looks := false }, kinds := [], alts := [], laidByText := true, laidKinds := [.data, .pinned], laidTests := true, laidLooks := .later }
def PassBackUptoCardSaid : Prop := Claim7.holds Tryd.pinned (.plain (OpenSpec.upto passBackSpec)) passBackUptoCard

/-- THE SECOND FORM's CARD OF 'towlinelaw10.PassFloors'. -/
def passFloorsUptoCard : Claim7 := { stood := { row := passFloorsUptoRow, standIns := [], harness := (true, "a38f695f06f0323d33cb1c8e799b4fd343623ad694e6aa90b6f6ebbb1b02ffc4"), looks := false }, kinds := [], alts := [], laidByText := true, laidKinds := [.data, .pinned], laidTests := true, laidLooks := .later }
def PassFloorsUptoCardSaid : Prop := Claim7.holds Tryd.pinned (.plain (OpenSpec.upto passFloorsSpec)) passFloorsUptoCard

/-- THE SECOND FORM's CARD OF 'towlinelaw10.PassJoined'. -/
def passJoinedUptoCard : Claim7 := { stood := { row := passJoinedUptoRow, standIns := [], harness := (true, "a38f695f06f0323d33cb1c8e799b4fd343623ad694e6aa90b6f6ebbb1b02ffc4"), looks := false }, kinds := [], alts := [], laidByText := true, laidKinds := [.data, .pinned], laidTests := true, laidLooks := .later }
def PassJoinedUptoCardSaid : Prop := Claim7.holds Tryd.pinned (.plain (OpenSpec.upto passJoinedSpec)) passJoinedUptoCard
end Rows
end Go.Proofs.YtphdbpljgilcgaaDoor
