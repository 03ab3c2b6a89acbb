/-
  DERIVED. GIVEN WITH THE SEED: THE CARDS: each row of YtdjeafaaclhpkabDoorRows.lean that lists a variable, with what it lists TIED to the program's text (the seventh form; the later family's looks); each row that meets fmt, with fmt's text TOLD by the authors' own Lean function (tested against real Go, not proved from fmt's source: count such statements apart). THE CARD IS WHAT COUNTS. Prove the row's statement (the work); the ties are given (YtdjeafaaclhpkabDoorTie.lean); close each card by the builder's one call (the guide's Derived/Test/ToyasCard.lean, 'card_holds'). Laid BY PROGRAM, IN A SANDBOX (cutbox-door.mjs). By AI agents, Wed Nov 11 2026. No macro, syntax, notation, axiom, sorry.
-/
import Derived.Test.YtdjeafaaclhpkabDoorRows
import GoSem.ClaimSeven
namespace Go.Proofs.YtdjeafaaclhpkabDoor
namespace Rows

/-- THE TIED CARD OF 'towlinelaw13.RouteLeast'. -/
def routeLeastCard : Claim7 := { stood := { row := routeLeastRow, standIns := [], harness := (true, "5c40cbc38f0984f9daa5fc8b8403f6c9e6d6a4a6f081a21e75f1785da5f4b398"), looks := false }, kinds := [], alts := [], laidByText := true, laidKinds := [.data], laidTests := true, laidLooks := .later }
def RouteLeastCardSaid : Prop := Claim7.holds Tryd.pinned (.plain (OpenSpec.ofChange routeLeastSpec)) routeLeastCard

/-- THE SECOND FORM's CARD OF 'towlinelaw13.RouteLeast'. -/
def routeLeastUptoCard : Claim7 := { stood := { row := routeLeastUptoRow, standIns := [], harness := (true, "5c40cbc38f0984f9daa5fc8b8403f6c9e6d6a4a6f081a21e75f1785da5f4b398"), looks := false }, kinds := [], alts := [], laidByText := true, laidKinds := [.data], laidTests := true, laidLooks := .later }
def RouteLeastUptoCardSaid : Prop := Claim7.holds Tryd.pinned (.plain (OpenSpec.upto routeLeastSpec)) routeLeastUptoCard
end Rows
end Go.Proofs.YtdjeafaaclhpkabDoor
