/-
  DERIVED. GIVEN WITH THE SEED: THE CARDS: each row of YtbbcondoenmapaeDoorRows.lean that lists a variable, with what it lists TIED to the program's text (the seventh form; the later family's looks); each row that meets fmt, with fmt's text TOLD by the authors' own Lean function (tested against real Go, not proved from fmt's source: count such statements apart). THE CARD IS WHAT COUNTS. Prove the row's statement (the work); the ties are given (YtbbcondoenmapaeDoorTie.lean); close each card by the builder's one call (the guide's Derived/Test/ToyasCard.lean, 'card_holds'). Laid BY PROGRAM, IN A SANDBOX (cutbox-door.mjs). By AI agents, Wed Nov 11 2026. No macro, syntax, notation, axiom, sorry.
-/
import Derived.Test.YtbbcondoenmapaeDoorRows
import GoSem.ClaimSeven
namespace Go.Proofs.YtbbcondoenmapaeDoor
namespace Rows

/-- THE TIED CARD OF 'towlinelaw02.MaskSigned'. -/
def maskSignedCard : Claim7 := { stood := { row := maskSignedRow, standIns := [], harness := (true, "6cb4103df673ac469022447d390866c0ebbd60a8b86932e303e3b7798e7e4959"), looks := false }, kinds := [], alts := [], laidByText := true, laidKinds := [.data], laidTests := true, laidLooks := .later }
def MaskSignedCardSaid : Prop := Claim7.holds Tryd.pinned (.plain (OpenSpec.ofChange maskSignedSpec)) maskSignedCard

/-- THE TIED CARD OF 'towlinelaw02.MaskNarrow'. -/
def maskNarrowCard : Claim7 := { stood := { row := maskNarrowRow, standIns := [], harness := (true, "6cb4103df673ac469022447d390866c0ebbd60a8b86932e303e3b7798e7e4959"), looks := false }, kinds := [], alts := [], laidByText := true, laidKinds := [.data], laidTests := true, laidLooks := .later }
def MaskNarrowCardSaid : Prop := Claim7.holds Tryd.pinned (.plain (OpenSpec.ofChange maskNarrowSpec)) maskNarrowCard

/-- THE TIED CARD OF 'towlinelaw02.MaskFlip'. -/
def maskFlipCard : Claim7 := { stood := { row := maskFlipRow, standIns := [], harness := (true, "6cb4103df673ac469022447d390866c0ebbd60a8b86932e303e3b7798e7e4959"), looks := false }, kinds := [], alts := [], laidByText := true, laidKinds := [.data], laidTests := true, laidLooks := .later }
def MaskFlipCardSaid : Prop := Claim7.holds Tryd.pinned (.plain (OpenSpec.ofChange maskFlipSpec)) maskFlipCard

/-- THE SECOND FORM's CARD OF 'towlinelaw02.MaskSigned'. -/
def maskSignedUptoCard : Claim7 := { stood := { row := maskSignedUptoRow, standIns := [], harness := (true, "6cb4103df673ac469022447d390866c0ebbd60a8b86932e303e3b7798e7e4959"), looks := false }, kinds := [], alts := [], laidByText := true, laidKinds := [.data], laidTests := true, laidLooks := .later }
def MaskSignedUptoCardSaid : Prop := Claim7.holds Tryd.pinned (.plain (OpenSpec.upto maskSignedSpec)) maskSignedUptoCard

/-- THE SECOND FORM's CARD OF 'towlinelaw02.MaskNarrow'. -/
def maskNarrowUptoCard : Claim7 := { stood := { row := maskNarrowUptoRow, standIns := [], harness := (true, "6cb4103df673ac469022447d390866c0ebbd60a8b86932e303e3b7798e7e4959"), looks := false }, kinds := [], alts := [], laidByText := true, laidKinds := [.data], laidTests := true, laidLooks := .later }
def MaskNarrowUptoCardSaid : Prop := Claim7.holds Tryd.pinned (.plain (OpenSpec.upto maskNarrowSpec)) maskNarrowUptoCard

/-- THE SECOND FORM's CARD OF 'towlinelaw02.MaskFlip'. -/
def maskFlipUptoCard : Claim7 := { stood := { row := maskFlipUptoRow, standIns := [], harness := (true, "6cb4103df673ac469022447d390866c0ebbd60a8b86932e303e3b7798e7e4959"), looks := false }, kinds := [], alts := [], laidByText := true, laidKinds := [.data], laidTests := true, laidLooks := .later }
def MaskFlipUptoCardSaid : Prop := Claim7.holds Tryd.pinned (.plain (OpenSpec.upto maskFlipSpec)) maskFlipUptoCard
end Rows
end Go.Proofs.YtbbcondoenmapaeDoor
