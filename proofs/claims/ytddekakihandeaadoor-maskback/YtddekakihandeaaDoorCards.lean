/-
  DERIVED. GIVEN WITH THE SEED: THE CARDS: each row of YtddekakihandeaaDoorRows.lean that lists a variable, with what it lists TIED to the program's text (the seventh form; the later family's looks); each row that meets fmt, with fmt's text TOLD by the authors' own Lean function (tested against real Go, not proved from fmt's source: count such statements apart). THE CARD IS WHAT COUNTS. Prove the row's statement (the work); the ties are given (YtddekakihandeaaDoorTie.lean); close each card by the builder's one call (the guide's Derived/Test/ToyasCard.lean, 'card_holds'). Laid BY PROGRAM, IN A SANDBOX (cutbox-door.mjs). By AI agents, Wed Nov 11 2026. No macro, syntax, notation, axiom, sorry.
-/
import Derived.Test.YtddekakihandeaaDoorRows
import GoSem.ClaimSeven
namespace Go.Proofs.YtddekakihandeaaDoor
namespace Rows

/-- THE TIED CARD OF 'towlinelaw02.MaskPacks'. -/
def maskPacksCard : Claim7 := { stood := { row := maskPacksRow, standIns := [], harness := (true, "084c6ce15839ebcd4459f1ba085c96709e1453db984d93c5e30ccdf0237094dd"), looks := false }, kinds := [], alts := [], laidByText := true, laidKinds := [.data], laidTests := true, laidLooks := .later }
def MaskPacksCardSaid : Prop := Claim7.holds Tryd.pinned (.plain (OpenSpec.ofChange maskPacksSpec)) maskPacksCard

/-- THE TIED CARD OF 'towlinelaw02.MaskUnpacks'. -/
def maskUnpacksCard : Claim7 := { stood := { row := maskUnpacksRow, standIns := [], harness := (true, "084c6ce15839ebcd4459f1ba085c96709e1453db984d93c5e30ccdf0237094dd"), looks := false }, kinds := [], alts := [], laidByText := true, laidKinds := [.data], laidTests := true, laidLooks := .later }
def MaskUnpacksCardSaid : Prop := Claim7.holds Tryd.pinned (.plain (OpenSpec.ofChange maskUnpacksSpec)) maskUnpacksCard

/-- THE TIED CARD OF 'towlinelaw02.MaskBack'. -/
def maskBackCard : Claim7 := { stood := { row := maskBackRow, standIns := [], harness := (true, "084c6ce15839ebcd4459f1ba085c96709e1453db984d93c5e30ccdf0237094dd"), looks := false }, kinds := [], alts := [], laidByText := true, laidKinds := [.data], laidTests := true, laidLooks := .later }
def MaskBackCardSaid : Prop := Claim7.holds Tryd.pinned (.plain (OpenSpec.ofChange maskBackSpec)) maskBackCard

/-- THE SECOND FORM's CARD OF 'towlinelaw02.MaskPacks'. -/
def maskPacksUptoCard : Claim7 := { stood := { row := maskPacksUptoRow, standIns := [], harness := (true, "084c6ce15839ebcd4459f1ba085c96709e1453db984d93c5e30ccdf0237094dd"), looks := false }, kinds := [], alts := [], laidByText := true, laidKinds := [.data], laidTests := true, laidLooks := .later }
def MaskPacksUptoCardSaid : Prop := Claim7.holds Tryd.pinned (.plain (OpenSpec.upto maskPacksSpec)) maskPacksUptoCard

/-- THE SECOND FORM's CARD OF 'towlinelaw02.MaskUnpacks'. -/
def maskUnpacksUptoCard : Claim7 := { stood := { row := maskUnpacksUptoRow, standIns := [], harness := (true, "084c6ce15839ebcd4459f1ba085c96709e1453db984d93c5e30ccdf0237094dd"), looks := false }, kinds := [], alts := [], laidByText := true, laidKinds := [.data], laidTests := true, laidLooks := .later }
def MaskUnpacksUptoCardSaid : Prop := Claim7.holds Tryd.pinned (.plain (OpenSpec.upto maskUnpacksSpec)) maskUnpacksUptoCard

/-- THE SECOND FORM's CARD OF 'towlinelaw02.MaskBack'. -/
def maskBackUptoCard : Claim7 := { stood := { row := maskBackUptoRow, standIns := [], harness := (true, "084c6ce15839ebcd4459f1ba085c96709e1453db984d93c5e30ccdf0237094dd"), looks := false }, kinds := [], alts := [], laidByText := true, laidKinds := [.data], laidTests := true, laidLooks := .later }
def MaskBackUptoCardSaid : Prop := Claim7.holds Tryd.pinned (.plain (OpenSpec.upto maskBackSpec)) maskBackUptoCard
end Rows
end Go.Proofs.YtddekakihandeaaDoor
