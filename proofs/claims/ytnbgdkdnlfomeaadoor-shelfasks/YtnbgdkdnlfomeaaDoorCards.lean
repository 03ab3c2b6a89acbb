/-
  DERIVED. GIVEN WITH THE SEED: THE CARDS: each row of YtnbgdkdnlfomeaaDoorRows.lean that lists a variable, with what it lists TIED to the program's text (the seventh form; the later family's looks); each row that meets fmt, with fmt's text TOLD by the authors' own Lean function (tested against real Go, not proved from fmt's source: count such statements apart). THE CARD IS WHAT COUNTS. Prove the row's statement (the work); the ties are given (YtnbgdkdnlfomeaaDoorTie.lean); close each card by the builder's one call (the guide's Derived/Test/ToyasCard.lean, 'card_holds'). Laid BY PROGRAM, IN A SANDBOX (cutbox-door.mjs). By AI agents, Wed Nov 11 2026. No macro, syntax, notation, axiom, sorry.
-/
import Derived.Test.YtnbgdkdnlfomeaaDoorRows
import GoSem.ClaimSeven
namespace Go.Proofs.YtnbgdkdnlfomeaaDoor
namespace Rows

/-- THE TIED CARD OF 'towlinelaw09.ShelfAsks'. -/
def shelfAsksCard : Claim7 := { stood := { row := shelfAsksRow, standIns := [], harness := (true, "502f71bf43c718207f53c70d0a83fbfc1a7d40f977a72563628befc4f3e90a81"), looks := true }, kinds := [], alts := [], laidByText := true, laidKinds := [.data, .pinned], laidTests := true, laidLooks := .later }
def ShelfAsksCardSaid : Prop := Claim7.holds Tryd.pinned (.plain (OpenSpec.ofChange shelfAsksSpec)) shelfAsksCard

/-- THE TIED CARD OF 'towlinelaw09.ShelfFolds'. -/
def shelfFoldsCard : Claim7 := { stood := { row := shelfFoldsRow, standIns := [], harness := (true, "502f71bf43c718207f53c70d0a83fbfc1a7d40f977a72563628befc4f3e90a81"), looks := true }, kinds := [], alts := [], laidByText := true, laidKinds := [.data, .pinned], laidTests := true, laidLooks := .later }
def ShelfFoldsCardSaid : Prop := Claim7.holds Tryd.pinned (.plain (OpenSpec.ofChange shelfFoldsSpec)) shelfFoldsCard

/-- THE TIED CARD OF 'towlinelaw09.ShelfCuts'. -/
def shelfCutsCard : Claim7 := { stood := { row := shelfCutsRow, standIns := [], harness := (true, "502f71bf43c718207f53c70d0a83fbfc1a7d40f977a72563628befc4f3e90a81"), looks := true }, kinds := [], alts := [], laidByText := true, laidKinds := [.data, .pinned], laidTests := true, laidLooks := .later }
def ShelfCutsCardSaid : Prop := Claim7.holds Tryd.pinned (.plain (OpenSpec.ofChange shelfCutsSpec)) shelfCutsCard

/-- THE TIED CARD OF 'towlinelaw09.ShelfTables'. -/
def shelfTablesCard : Claim7 := { stood := { row := shelfTablesRow, standIns := [], harness := (true, "502f71bf43c718207f53c70d0a83fbfc1a7d40f977a72563628befc4f3e90a81"), looks := true }, kinds := [], alts := [], laidByText := true, laidKinds := [.data, .pinned], laidTests := true, laidLooks := .later }
def ShelfTablesCardSaid : Prop := Claim7.holds Tryd.pinned (.plain (OpenSpec.ofChange shelfTablesSpec)) shelfTablesCard

/-- THE TIED CARD OF 'towlinelaw09.ShelfRefused'. -/
def shelfRefusedCard : Claim7 := { stood := { row := shelfRefusedRow, standIns := [], harness := (true, "502f71bf43c718207f53c70d0a83fbfc1a7d40f977a72563628befc4f3e90a81"), looks := true }, kinds := [], alts := [], laidByText := true, laidKinds := [.data, .pinned], laidTests := true, laidLooks := .later }
def ShelfRefusedCardSaid : Prop := Claim7.holds Tryd.pinned (.plain (OpenSpec.ofChange shelfRefusedSpec)) shelfRefusedCard

/-- THE TIED CARD OF 'towlinelaw09.ShelfNext'. -/
def shelfNextCard : Claim7 := { stood := { row := shelfNextRow, standIns := [], harness := (true, "502f71bf43c718207f53c70d0a83fbfc1a7d40f977a72563628befc4f3e90a81"), looks := true }, kinds := [], alts := [], laidByText := true, laidKinds := [.data, .pinned], laidTests := true, laidLooks := .later }
def ShelfNextCardSaid : Prop := Claim7.holds Tryd.pinned (.plain (OpenSpec.ofChange shelfNextSpec)) shelfNextCard

/-- THE SECOND FORM's CARD OF 'towlinelaw09.ShelfAsks'. -/
def shelfAsksUptoCard : Claim7 := { stood := { row := shelfAsksUptoRow, standIns := [], harness := (true, "502f71bf43c718207f53c70d0a83fbfc1a7d40f977a72563628befc4f3e90a81"), looks := true }, kinds := [], alts := [], laidByText := true, laidKinds := [.data, .pinned], laidTests := true, laidLooks := .later }
def ShelfAsksUptoCardSaid : Prop := Claim7.holds Tryd.pinned (.plain (OpenSpec.upto shelfAsksSpec)) shelfAsksUptoCard

/-- THE SECOND FORM's CARD OF 'towlinelaw09.ShelfFolds'. -/
def shelfFoldsUptoCard : Claim7 := { stood := { row := shelfFoldsUptoRow, standIns := [], harness := (true, "502f71bf43c718207f53c70d0a83fbfc1a7d40f977a72563628befc4f3e90a81"), looks := true }, kinds := [], alts := [], laidByText := true, laidKinds := [.data, .pinned], laidTests := true, laidLooks := .later }
def ShelfFoldsUptoCardSaid : Prop := Claim7.holds Tryd.pinned (.plain (OpenSpec.upto shelfFoldsSpec)) shelfFoldsUptoCard

/-- THE SECOND FORM's CARD OF 'towlinelaw09.ShelfCuts'. -/
def shelfCutsUptoCard : Claim7 := { stood := { row := shelfCutsUptoRow, standIns := [], harness := (true, "502f71bf43c718207f53c70d0a83fbfc1a7d40f977a72563628befc4f3e90a81"), looks := true }, kinds := [], alts := [], laidByText := true, laidKinds := [.data, .pinned], laidTests := true, laidLooks := .later }
def ShelfCutsUptoCardSaid : Prop := Claim7.holds Tryd.pinned (.plain (OpenSpec.upto shelfCutsSpec)) shelfCutsUptoCard

/-- THE SECOND FORM's CARD OF 'towlinelaw09.ShelfTables'. -/
def shelfTablesUptoCard : Claim7 := { stood := { row := shelfTablesUptoRow, standIns := [], harness := (true, "502f71bf43c718207f53c70d0a83fbfc1a7d40f977a72563628befc4f3e90a81"), looks := true }, kinds := [], alts := [], laidByText := true, laidKinds := [.data, .pinned], laidTests := true, laidLooks := .later }
def ShelfTablesUptoCardSaid : Prop := Claim7.holds Tryd.pinned (.plain (OpenSpec.upto shelfTablesSpec)) shelfTablesUptoCard

/-- THE SECOND FORM's CARD OF 'towlinelaw09.ShelfRefused'. -/
def shelfRefusedUptoCard : Claim7 := { stood := { row := shelfRefusedUptoRow, standIns := [], harness := (true, "502f71bf43c718207f53c70d0a83fbfc1a7d40f977a72563628befc4f3e90a81"), looks := true }, kinds := [], alts := [], laidByText := true, laidKinds := [.data, .pinned], laidTests := true, laidLooks := .later }
def ShelfRefusedUptoCardSaid : Prop := Claim7.holds Tryd.pinned (.plain (OpenSpec.upto shelfRefusedSpec)) shelfRefusedUptoCard

/-- THE SECOND FORM's CARD OF 'towlinelaw09.ShelfNext'. -/
def shelfNextUptoCard : Claim7 := { stood := { row := shelfNextUptoRow, standIns := [], harness := (true, "502f71bf43c718207f53c70d0a83fbfc1a7d40f977a72563628befc4f3e90a81"), looks := true }, kinds := [], alts := [], laidByText := true, laidKinds := [.data, .pinned], laidTests := true, laidLooks := .later }
def ShelfNextUptoCardSaid : Prop := Claim7.holds Tryd.pinned (.plain (OpenSpec.upto shelfNextSpec)) shelfNextUptoCard
end Rows
end Go.Proofs.YtnbgdkdnlfomeaaDoor
