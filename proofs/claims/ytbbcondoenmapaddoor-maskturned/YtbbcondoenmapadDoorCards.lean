/-
  DERIVED. GIVEN WITH THE SEED: THE CARDS: each row of YtbbcondoenmapadDoorRows.lean that lists a variable, with what it lists TIED to the program's text (the seventh form; the later family's looks); each row that meets fmt, with fmt's text TOLD by the authors' own Lean function (tested against real Go, not proved from fmt's source: count such statements apart). THE CARD IS WHAT COUNTS. Prove the row's statement (the work); the ties are given (YtbbcondoenmapadDoorTie.lean); close each card by the builder's one call (the guide's Derived/Test/ToyasCard.lean, 'card_holds'). Laid BY PROGRAM, IN A SANDBOX (cutbox-door.mjs). By AI agents, Wed Nov 11 2026. No macro, syntax, notation, axiom, sorry.
-/
import Derived.Test.YtbbcondoenmapadDoorRows
import GoSem.ClaimSeven
namespace Go.Proofs.YtbbcondoenmapadDoor
namespace Rows

/-- THE TIED CARD OF 'towlinelaw02.MaskTurned'. -/
def maskTurnedCard : Claim7 := { stood := { row := maskTurnedRow, standIns := [], harness := (true, "91dc0469d95be74e444674d6a99b131704f9aadf1bb1e47242bbcc932d03d100"), looks := false }, kinds := [], alts := [], laidByText := true, laidKinds := [.data], laidTests := true, laidLooks := .later }
def MaskTurnedCardSaid : Prop := Claim7.holds Tryd.pinned (.plain (OpenSpec.ofChange maskTurnedSpec)) maskTurnedCard

/-- THE TIED CARD OF 'towlinelaw02.MaskAround'. -/
def maskAroundCard : Claim7 := { stood := { row := maskAroundRow, standIns := [], harness := (true, "91dc0469d95be74e444674d6a99b131704f9aadf1bb1e47242bbcc932d03d100"), looks := false }, kinds := [], alts := [], laidByText := true, laidKinds := [.data], laidTests := true, laidLooks := .later }
def MaskAroundCardSaid : Prop := Claim7.holds Tryd.pinned (.plain (OpenSpec.ofChange maskAroundSpec)) maskAroundCard

/-- THE TIED CARD OF 'towlinelaw02.MaskShare'. -/
def maskShareCard : Claim7 := { stood := { row := maskShareRow, standIns := [], harness := (true, "91dc0469d95be74e444674d6a99b131704f9aadf1bb1e47242bbcc932d03d100"), looks := false }, kinds := [], alts := [], laidByText := true, laidKinds := [.data], laidTests := true, laidLooks := .later }
def MaskShareCardSaid : Prop := Claim7.holds Tryd.pinned (.plain (OpenSpec.ofChange maskShareSpec)) maskShareCard

/-- THE TIED CARD OF 'towlinelaw02.MaskPacks'. -/
def maskPacksCard : Claim7 := { stood := { row := maskPacksRow, standIns := [], harness := (true, "91dc0469d95be74e444674d6a99b131704f9aadf1bb1e47242bbcc932d03d100"), looks := false }, kinds := [], alts := [], laidByText := true, laidKinds := [.data], laidTests := true, laidLooks := .later }
def MaskPacksCardSaid : Prop := Claim7.holds Tryd.pinned (.plain (OpenSpec.ofChange maskPacksSpec)) maskPacksCard

/-- THE TIED CARD OF 'towlinelaw02.MaskUnpacks'. -/
def maskUnpacksCard : Claim7 := { stood := { row := maskUnpacksRow, standIns := [], harness := (true, "91dc0469d95be74e444674d6a99b131704f9aadf1bb1e47242bbcc932d03d100"), looks := false }, kinds := [], alts := [], laidByText := true, laidKinds := [.data], laidTests := true, laidLooks := .later }
def MaskUnpacksCardSaid : Prop := Claim7.holds Tryd.pinned (.plain (OpenSpec.ofChange maskUnpacksSpec)) maskUnpacksCard

/-- THE TIED CARD OF 'towlinelaw02.MaskBack'. -/
def maskBackCard : Claim7 := { stood := { row := maskBackRow, standIns := [], harness := (true, "91dc0469d95be74e444674d6a99b131704f9aadf1bb1e47242bbcc932d03d100"), looks := false }, kinds := [], alts := [], laidByText := true, laidKinds := [.data], laidTests := true, laidLooks := .later }
def MaskBackCardSaid : Prop := Claim7.holds Tryd.pinned (.plain (OpenSpec.ofChange maskBackSpec)) maskBackCard

/-- THE SECOND FORM's CARD OF 'towlinelaw02.MaskTurned'. -/
def maskTurnedUptoCard : Claim7 := { stood := { row := maskTurnedUptoRow, standIns := [], harness := (true, "91dc0469d95be74e444674d6a99b131704f9aadf1bb1e47242bbcc932d03d100"), looks := false }, kinds := [], alts := [], laidByText := true, laidKinds := [.data], laidTests := true, laidLooks := .later }
def MaskTurnedUptoCardSaid : Prop := Claim7.holds Tryd.pinned (.plain (OpenSpec.upto maskTurnedSpec)) maskTurnedUptoCard

/-- THE SECOND FORM's CARD OF 'towlinelaw02.MaskAround'. -/
def maskAroundUptoCard : Claim7 := { stood := { row := maskAroundUptoRow, standIns := [], harness := (true, "91dc0469d95be74e444674d6a99b131704f9aadf1bb1e47242bbcc932d03d100"), looks := false }, kinds := [], alts := [], laidByText := true, laidKinds := [.data], laidTests := true, laidLooks := .later }
def MaskAroundUptoCardSaid : Prop := Claim7.holds Tryd.pinned (.plain (OpenSpec.upto maskAroundSpec)) maskAroundUptoCard

/-- THE SECOND FORM's CARD OF 'towlinelaw02.MaskShare'. -/
def maskShareUptoCard : Claim7 := { stood := { row := maskShareUptoRow, standIns := [], harness := (true, "91dc0469d95be74e444674d6a99b131704f9aadf1bb1e47242bbcc932d03d100"), looks := false }, kinds := [], alts := [], laidByText := true, laidKinds := [.data], laidTests := true, laidLooks := .later }
def MaskShareUptoCardSaid : Prop := Claim7.holds Tryd.pinned (.plain (OpenSpec.upto maskShareSpec)) maskShareUptoCard

/-- THE SECOND FORM's CARD OF 'towlinelaw02.MaskPacks'. -/
def maskPacksUptoCard : Claim7 := { stood := { row := maskPacksUptoRow, standIns := [], harness := (true, "91dc0469d95be74e444674d6a99b131704f9aadf1bb1e47242bbcc932d03d100"), looks := false }, kinds := [], alts := [], laidByText := true, laidKinds := [.data], laidTests := true, laidLooks := .later }
def MaskPacksUptoCardSaid : Prop := Claim7.holds Tryd.pinned (.plain (OpenSpec.upto maskPacksSpec)) maskPacksUptoCard

/-- THE SECOND FORM's CARD OF 'towlinelaw02.MaskUnpacks'. -/
def maskUnpacksUptoCard : Claim7 := { stood := { row := maskUnpacksUptoRow, standIns := [], harness := (true, "91dc0469d95be74e444674d6a99b131704f9aadf1bb1e47242bbcc932d03d100"), looks := false }, kinds := [], alts := [], laidByText := true, laidKinds := [.data], laidTests := true, laidLooks := .later }
def MaskUnpacksUptoCardSaid : Prop := Claim7.holds Tryd.pinned (.plain (OpenSpec.upto maskUnpacksSpec)) maskUnpacksUptoCard

/-- THE SECOND FORM's CARD OF 'towlinelaw02.MaskBack'. -/
def maskBackUptoCard : Claim7 := { stood := { row := maskBackUptoRow, standIns := [], harness := (true, "91dc0469d95be74e444674d6a99b131704f9aadf1bb1e47242bbcc932d03d100"), looks := false }, kinds := [], alts := [], laidByText := true, laidKinds := [.data], laidTests := true, laidLooks := .later }
def MaskBackUptoCardSaid : Prop := Claim7.holds Tryd.pinned (.plain (OpenSpec.upto maskBackSpec)) maskBackUptoCard
end Rows
end Go.Proofs.YtbbcondoenmapadDoor
