/-
  DERIVED. GIVEN WITH THE SEED: THE CARDS: each row of YtbbcondoenmapacDoorRows.lean that lists a variable, with what it lists TIED to the program's text (the seventh form; the later family's looks); each row that meets fmt, with fmt's text TOLD by the authors' own Lean function (tested against real Go, not proved from fmt's source: count such statements apart). THE CARD IS WHAT COUNTS. Prove the row's statement (the work); the ties are given (YtbbcondoenmapacDoorTie.lean); close each card by the builder's one call (the guide's Derived/Test/ToyasCard.lean, 'card_holds'). Laid BY PROGRAM, IN A SANDBOX (cutbox-door.mjs). By AI agents, Wed Nov 11 2026. No macro, syntax, notation, axiom, sorry.
-/
import Derived.Test.YtbbcondoenmapacDoorRows
import GoSem.ClaimSeven
namespace Go.Proofs.YtbbcondoenmapacDoor
namespace Rows

/-- THE TIED CARD OF 'towlinelaw02.MaskOf'. -/
def maskOfCard : Claim7 := { stood := { row := maskOfRow, standIns := [], harness := (true, "86925ba1fb8169dbc5c086e5fe38f990e0b7f7dac656eced7670d4abfc2cb4df"), looks := false }, kinds := [], alts := [], laidByText := true, laidKinds := [.data], laidTests := true, laidLooks := .later }
def MaskOfCardSaid : Prop := Claim7.holds Tryd.pinned (.plain (OpenSpec.ofChange maskOfSpec)) maskOfCard

/-- THE TIED CARD OF 'towlinelaw02.MaskCounts'. -/
def maskCountsCard : Claim7 := { stood := { row := maskCountsRow, standIns := [], harness := (true, "86925ba1fb8169dbc5c086e5fe38f990e0b7f7dac656eced7670d4abfc2cb4df"), looks := false }, kinds := [], alts := [], laidByText := true, laidKinds := [.data], laidTests := true, laidLooks := .later }
def MaskCountsCardSaid : Prop := Claim7.holds Tryd.pinned (.plain (OpenSpec.ofChange maskCountsSpec)) maskCountsCard

/-- THE TIED CARD OF 'towlinelaw02.MaskRanks'. -/
def maskRanksCard : Claim7 := { stood := { row := maskRanksRow, standIns := [], harness := (true, "86925ba1fb8169dbc5c086e5fe38f990e0b7f7dac656eced7670d4abfc2cb4df"), looks := false }, kinds := [], alts := [], laidByText := true, laidKinds := [.data], laidTests := true, laidLooks := .later }
def MaskRanksCardSaid : Prop := Claim7.holds Tryd.pinned (.plain (OpenSpec.ofChange maskRanksSpec)) maskRanksCard

/-- THE TIED CARD OF 'towlinelaw02.MaskTwo'. -/
def maskTwoCard : Claim7 := { stood := { row := maskTwoRow, standIns := [], harness := (true, "86925ba1fb8169dbc5c086e5fe38f990e0b7f7dac656eced7670d4abfc2cb4df"), looks := false }, kinds := [], alts := [], laidByText := true, laidKinds := [.data], laidTests := true, laidLooks := .later }
def MaskTwoCardSaid : Prop := Claim7.holds Tryd.pinned (.plain (OpenSpec.ofChange maskTwoSpec)) maskTwoCard

/-- THE SECOND FORM's CARD OF 'towlinelaw02.MaskOf'. -/
def maskOfUptoCard : Claim7 := { stood := { row := maskOfUptoRow, standIns := [], harness := (true, "86925ba1fb8169dbc5c086e5fe38f990e0b7f7dac656eced7670d4abfc2cb4df"), looks := false }, kinds := [], alts := [], laidByText := true, laidKinds := [.data], laidTests := true, laidLooks := .later }
def MaskOfUptoCardSaid : Prop := Claim7.holds Tryd.pinned (.plain (OpenSpec.upto maskOfSpec)) maskOfUptoCard

/-- THE SECOND FORM's CARD OF 'towlinelaw02.MaskCounts'. -/
def maskCountsUptoCard : Claim7 := { stood := { row := maskCountsUptoRow, standIns := [], harness := (true, "86925ba1fb8169dbc5c086e5fe38f990e0b7f7dac656eced7670d4abfc2cb4df"), looks := false }, kinds := [], alts := [], laidByText := true, laidKinds := [.data], laidTests := true, laidLooks := .later }
def MaskCountsUptoCardSaid : Prop := Claim7.holds Tryd.pinned (.plain (OpenSpec.upto maskCountsSpec)) maskCountsUptoCard

/-- THE SECOND FORM's CARD OF 'towlinelaw02.MaskRanks'. -/
def maskRanksUptoCard : Claim7 := { stood := { row := maskRanksUptoRow, standIns := [], harness := (true, "86925ba1fb8169dbc5c086e5fe38f990e0b7f7dac656eced7670d4abfc2cb4df"), looks := false }, kinds := [], alts := [], laidByText := true, laidKinds := [.data], laidTests := true, laidLooks := .later }
def MaskRanksUptoCardSaid : Prop := Claim7.holds Tryd.pinned (.plain (OpenSpec.upto maskRanksSpec)) maskRanksUptoCard

/-- THE SECOND FORM's CARD OF 'towlinelaw02.MaskTwo'. -/
def maskTwoUptoCard : Claim7 := { stood := { row := maskTwoUptoRow, standIns := [], harness := (true, "86925ba1fb8169dbc5c086e5fe38f990e0b7f7dac656eced7670d4abfc2cb4df"), looks := false }, kinds := [], alts := [], laidByText := true, laidKinds := [.data], laidTests := true, laidLooks := .later }
def MaskTwoUptoCardSaid : Prop := Claim7.holds Tryd.pinned (.plain (OpenSpec.upto maskTwoSpec)) maskTwoUptoCard
end Rows
end Go.Proofs.YtbbcondoenmapacDoor
