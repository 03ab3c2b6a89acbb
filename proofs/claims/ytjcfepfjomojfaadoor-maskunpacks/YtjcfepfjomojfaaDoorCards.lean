/-
  DERIVED. GIVEN WITH THE SEED: THE CARDS: each row of YtjcfepfjomojfaaDoorRows.lean that lists a variable, with what it lists TIED to the program's text (the seventh form; the later family's looks); each row that meets fmt, with fmt's text TOLD by the authors' own Lean function (tested against real Go, not proved from fmt's source: count such statements apart). THE CARD IS WHAT COUNTS. Prove the row's statement (the work); the ties are given (YtjcfepfjomojfaaDoorTie.lean); close each card by the builder's one call (the guide's Derived/Test/ToyasCard.lean, 'card_holds'). Laid BY PROGRAM, IN A SANDBOX (cutbox-door.mjs). By AI agents, Wed Nov 11 2026. No macro, syntax, notation, axiom, sorry.
-/
import Derived.Test.YtjcfepfjomojfaaDoorRows
import GoSem.ClaimSeven
namespace Go.Proofs.YtjcfepfjomojfaaDoor
namespace Rows

/-- THE TIED CARD OF 'towlinelaw02.MaskTwo'. -/
def maskTwoCard : Claim7 := { stood := { row := maskTwoRow, standIns := [], harness := (true, "cf2ae57ae3dbd75b7c8ade218ef052ed4569d415b2f882ebf7f68e82f101c1c9"), looks := false }, kinds := [], alts := [], laidByText := true, laidKinds := [.data], laidTests := true, laidLooks := .later }
def MaskTwoCardSaid : Prop := Claim7.holds Tryd.pinned (.plain (OpenSpec.ofChange maskTwoSpec)) maskTwoCard

/-- THE TIED CARD OF 'towlinelaw02.MaskPacks'. -/
def maskPacksCard : Claim7 := { stood := { row := maskPacksRow, standIns := [], harness := (true, "cf2ae57ae3dbd75b7c8ade218ef052ed4569d415b2f882ebf7f68e82f101c1c9"), looks := false }, kinds := [], alts := [], laidByText := true, laidKinds := [.data], laidTests := true, laidLooks := .later }
def MaskPacksCardSaid : Prop := Claim7.holds Tryd.pinned (.plain (OpenSpec.ofChange maskPacksSpec)) maskPacksCard

/-- THE TIED CARD OF 'towlinelaw02.MaskUnpacks'. -/
def maskUnpacksCard : Claim7 := { stood := { row := maskUnpacksRow, standIns := [], harness := (true, "cf2ae57ae3dbd75b7c8ade218ef052ed4569d415b2f882ebf7f68e82f101c1c9"), looks := false }, kinds := [], alts := [], laidByText := true, laidKinds := [.data], laidTests := true, laidLooks := .later }
def MaskUnpacksCardSaid : Prop := Claim7.holds Tryd.pinned (.plain (OpenSpec.ofChange maskUnpacksSpec)) maskUnpacksCard

/-- THE TIED CARD OF 'towlinelaw02.MaskBack'. -/
def maskBackCard : Claim7 := { stood := { row := maskBackRow, standIns := [], harness := (true, "cf2ae57ae3dbd75b7c8ade218ef052ed4569d415b2f882ebf7f68e82f101c1c9"), looks := false }, kinds := [], alts := [], laidByText := true, laidKinds := [.data], laidTests := true, laidLooks := .later }
def MaskBackCardSaid : Prop := Claim7.holds Tryd.pinned (.plain (OpenSpec.ofChange maskBackSpec)) maskBackCard

/-- THE SECOND FORM's CARD OF 'towlinelaw02.MaskTwo'. -/
def maskTwoUptoCard : Claim7 := { stood := { row := maskTwoUptoRow, standIns := [], harness := (true, "cf2ae57ae3dbd75b7c8ade218ef052ed4569d415b2f882ebf7f68e82f101c1c9"), looks := false }, kinds := [], alts := [], laidByText := true, laidKinds := [.data], laidTests := true, laidLooks := .later }
def MaskTwoUptoCardSaid : Prop := Claim7.holds Tryd.pinned (.plain (OpenSpec.upto maskTwoSpec)) maskTwoUptoCard

/-- THE SECOND FORM's CARD OF 'towlinelaw02.MaskPacks'. -/
def maskPacksUptoCard : Claim7 := { stood := { row := maskPacksUptoRow, standIns := [], harness := (true, "cf2ae57ae3dbd75b7c8ade218ef052ed4569d415b2f882ebf7f68e82f101c1c9"), looks := false }, kinds := [], alts := [], laidByText := true, laidKinds := [.data], laidTests := true, laidLooks := .later }
def MaskPacksUptoCardSaid : Prop := Claim7.holds Tryd.pinned (.plain (OpenSpec.upto maskPacksSpec)) maskPacksUptoCard

/-- THE SECOND FORM's CARD OF 'towlinelaw02.MaskUnpacks'. -/
def maskUnpacksUptoCard : Claim7 := { stood := { row := maskUnpacksUptoRow, standIns := [], harness := (true, "cf2ae57ae3dbd75b7c8ade218ef052ed4569d415b2f882ebf7f68e82f101c1c9"), looks := false }, kinds := [], alts := [], laidByText := true, laidKinds := [.data], laidTests := true, laidLooks := .later }
def MaskUnpacksUptoCardSaid : Prop := Claim7.holds Tryd.pinned (.plain (OpenSpec.upto maskUnpacksSpec)) maskUnpacksUptoCard

/-- THE SECOND FORM's CARD OF 'towlinelaw02.MaskBack'. -/
def maskBackUptoCard : Claim7 := { stood := { row := maskBackUptoRow, standIns := [], harness := (true, "cf2ae57ae3dbd75b7c8ade218ef052ed4569d415b2f882ebf7f68e82f101c1c9"), looks := false }, kinds := [], alts := [], laidByText := true, laidKinds := [.data], laidTests := true, laidLooks := .later }
def MaskBackUptoCardSaid : Prop := Claim7.holds Tryd.pinned (.plain (OpenSpec.upto maskBackSpec)) maskBackUptoCard
end Rows
end Go.Proofs.YtjcfepfjomojfaaDoor
