/-
  DERIVED. GIVEN WITH THE SEED: THE CARDS: each row of YtekifbhfbnabaaaDoorRows.lean that lists a variable, with what it lists TIED to the program's text (the seventh form; the later family's looks); each row that meets fmt, with fmt's text TOLD by the authors' own Lean function (tested against real Go, not proved from fmt's source: count such statements apart). THE CARD IS WHAT COUNTS. Prove the row's statement (the work); the ties are given (YtekifbhfbnabaaaDoorTie.lean); close each card by the builder's one call (the guide's Derived/Test/ToyasCard.lean, 'card_holds'). Laid BY PROGRAM, IN A SANDBOX (cutbox-door.mjs). By AI agents, Wed Nov 11 2026. No macro, syntax, notation, axiom, sorry.
-/
import Derived.Test.YtekifbhfbnabaaaDoorRows
import GoSem.ClaimSeven
namespace Go.Proofs.YtekifbhfbnabaaaDoor
namespace Rows

/-- THE TIED CARD OF 'towlinelaw02.MaskSigned'. -/
def maskSignedCard : Claim7 := { stood := { row := maskSignedRow, standIns := [], harness := (true, "759dca44f57d3ae1b4fde97ac64ef4f3ba7ca8e22369d0e1f7d429474f679cf6"), looks := false }, kinds := [], alts := [], laidByText := true, laidKinds := [.data], laidTests := true, laidLooks := .later }
def MaskSignedCardSaid : Prop := Claim7.holds Tryd.pinned (.plain (OpenSpec.ofChange maskSignedSpec)) maskSignedCard

/-- THE TIED CARD OF 'towlinelaw02.MaskNarrow'. -/
def maskNarrowCard : Claim7 := { stood := { row := maskNarrowRow, standIns := [], harness := (true, "759dca44f57d3ae1b4fde97ac64ef4f3ba7ca8e22369d0e1f7d429474f679cf6"), looks := false }, kinds := [], alts := [], laidByText := true, laidKinds := [.data], laidTests := true, laidLooks := .later }
def MaskNarrowCardSaid : Prop := Claim7.holds Tryd.pinned (.plain (OpenSpec.ofChange maskNarrowSpec)) maskNarrowCard

/-- THE SECOND FORM's CARD OF 'towlinelaw02.MaskSigned'. -/
def maskSignedUptoCard : Claim7 := { stood := { row := maskSignedUptoRow, standIns := [], harness := (true, "759dca44f57d3ae1b4fde97ac64ef4f3ba7ca8e22369d0e1f7d429474f679cf6"), looks := false }, kinds := [], alts := [], laidByText := true, laidKinds := [.data], laidTests := true, laidLooks := .later }
def MaskSignedUptoCardSaid : Prop := Claim7.holds Tryd.pinned (.plain (OpenSpec.upto maskSignedSpec)) maskSignedUptoCard

/-- THE SECOND FORM's CARD OF 'towlinelaw02.MaskNarrow'. -/
def maskNarrowUptoCard : Claim7 := { stood := { row := maskNarrowUptoRow, standIns := [], harness := (true, "759dca44f57d3ae1b4fde97ac64ef4f3ba7ca8e22369d0e1f7d429474f679cf6"), looks := false }, kinds := [], alts := [], laidByText := true, laidKinds := [.data], laidTests := true, laidLooks := .later }
def MaskNarrowUptoCardSaid : Prop := Claim7.holds Tryd.pinned (.plain (OpenSpec.upto maskNarrowSpec)) maskNarrowUptoCard
end Rows
end Go.Proofs.YtekifbhfbnabaaaDoor
