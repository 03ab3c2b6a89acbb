/-
  DERIVED. GIVEN WITH THE SEED: THE CARDS: each row of YtigojnpjpagfjaaDoorRows.lean that lists a variable, with what it lists TIED to the program's text (the seventh form; the later family's looks); each row that meets fmt, with fmt's text TOLD by the authors' own Lean function (tested against real Go, not proved from fmt's source: count such statements apart). THE CARD IS WHAT COUNTS. Prove the row's statement (the work); the ties are given (YtigojnpjpagfjaaDoorTie.lean); close each card by the builder's one call (the guide's Derived/Test/ToyasCard.lean, 'card_holds'). Laid BY PROGRAM, IN A SANDBOX (cutbox-door.mjs). By AI agents, Wed Nov 11 2026. No macro, syntax, notation, axiom, sorry.
-/
import Derived.Test.YtigojnpjpagfjaaDoorRows
import GoSem.ClaimSeven
namespace Go.Proofs.YtigojnpjpagfjaaDoor
namespace Rows

/-- THE TIED CARD OF 'towlinelaw14.PlanChecks'. -/
def planChecksCard : Claim7 := { stood := { row := planChecksRow, standIns := [], harness := (true, "2c0abdba69a5b3b06bc69f49abf9cc4a932e5b5b7864e38c3511cc82480d32a0"), looks := false }, kinds := [], alts := [], laidByText := true, laidKinds := [.data], laidTests := true, laidLooks := .later }
def PlanChecksCardSaid : Prop := Claim7.holds Tryd.pinned (.plain (OpenSpec.ofChange planChecksSpec)) planChecksCard

/-- THE TIED CARD OF 'towlinelaw14.PlanNext'. -/
def planNextCard : Claim7 := { stood := { row := planNextRow, standIns := [], harness := (true, "2c0abdba69a5b3b06bc69f49abf9cc4a932e5b5b7864e38c3511cc82480d32a0"), looks := false }, kinds := [], alts := [], laidByText := true, laidKinds := [.data], laidTests := true, laidLooks := .later }
def PlanNextCardSaid : Prop := Claim7.holds Tryd.pinned (.plain (OpenSpec.ofChange planNextSpec)) planNextCard

/-- THE TIED CARD OF 'towlinelaw14.PlanAll'. -/
def planAllCard : Claim7 := { stood := { row := planAllRow, standIns := [], harness := (true, "2c0abdba69a5b3b06bc69f49abf9cc4a932e5b5b7864e38c3511cc82480d32a0"), looks := false }, kinds := [], alts := [], laidByText := true, laidKinds := [.data], laidTests := true, laidLooks := .later }
def PlanAllCardSaid : Prop := Claim7.holds Tryd.pinned (.plain (OpenSpec.ofChange planAllSpec)) planAllCard

/-- THE TIED CARD OF 'towlinelaw14.PlanEnds'. -/
def planEndsCard : Claim7 := { stood := { row := planEndsRow, standIns := [], harness := (true, "2c0abdba69a5b3b06bc69f49abf9cc4a932e5b5b7864e38c3511cc82480d32a0"), looks := false }, kinds := [], alts := [], laidByText := true, laidKinds := [.data], laidTests := true, laidLooks := .later }
def PlanEndsCardSaid : Prop := Claim7.holds Tryd.pinned (.plain (OpenSpec.ofChange planEndsSpec)) planEndsCard

/-- THE TIED CARD OF 'towlinelaw14.PlanSafe'. -/
def planSafeCard : Claim7 := { stood := { row := planSafeRow, standIns := [], harness := (true, "2c0abdba69a5b3b06bc69f49abf9cc4a932e5b5b7864e38c3511cc82480d32a0"), looks := false }, kinds := [], alts := [], laidByText := true, laidKinds := [.data], laidTests := true, laidLooks := .later }
def PlanSafeCardSaid : Prop := Claim7.holds Tryd.pinned (.plain (OpenSpec.ofChange planSafeSpec)) planSafeCard

/-- THE TIED CARD OF 'towlinelaw14.PlanWished'. -/
def planWishedCard : Claim7 := { stood := { row := planWishedRow, standIns := [], harness := (true, "2c0abdba69a5b3b06bc69f49abf9cc4a932e5b5b7864e38c3511cc82480d32a0"), looks := false }, kinds := [], alts := [], laidByText := true, laidKinds := [.data], laidTests := true, laidLooks := .later }
def PlanWishedCardSaid : Prop := Claim7.holds Tryd.pinned (.plain (OpenSpec.ofChange planWishedSpec)) planWishedCard

/-- THE SECOND FORM's CARD OF 'towlinelaw14.PlanChecks'. -/
def planChecksUptoCard : Claim7 := { stood := { row := planChecksUptoRow, standIns := [], harness := (true, "2c0abdba69a5b3b06bc69f49abf9cc4a932e5b5b7864e38c3511cc82480d32a0"), looks := false }, kinds := [], alts := [], laidByText := true, laidKinds := [.data], laidTests := true, laidLooks := .later }
def PlanChecksUptoCardSaid : Prop := Claim7.holds Tryd.pinned (.plain (OpenSpec.upto planChecksSpec)) planChecksUptoCard

/-- THE SECOND FORM's CARD OF 'towlinelaw14.PlanNext'. -/
def planNextUptoCard : Claim7 := { stood := { row := planNextUptoRow, standIns := [], harness := (true, "2c0abdba69a5b3b06bc69f49abf9cc4a932e5b5b7864e38c3511cc82480d32a0"), looks := false }, kinds := [], alts := [], laidByText := true, laidKinds := [.data], laidTests := true, laidLooks := .later }
def PlanNextUptoCardSaid : Prop := Claim7.holds Tryd.pinned (.plain (OpenSpec.upto planNextSpec)) planNextUptoCard

/-- THE SECOND FORM's CARD OF 'towlinelaw14.PlanAll'. -/
def planAllUptoCard : Claim7 := { stood := { row := planAllUptoRow, standIns := [], harness := (true, "2c0abdba69a5b3b06bc69f49abf9cc4a932e5b5b7864e38c3511cc82480d32a0"), looks := false }, kinds := [], alts := [], laidByText := true, laidKinds := [.data], laidTests := true, laidLooks := .later }
def PlanAllUptoCardSaid : Prop := Claim7.holds Tryd.pinned (.plain (OpenSpec.upto planAllSpec)) planAllUptoCard

/-- THE SECOND FORM's CARD OF 'towlinelaw14.PlanEnds'. -/
def planEndsUptoCard : Claim7 := { stood := { row := planEndsUptoRow, standIns := [], harness := (true, "2c0abdba69a5b3b06bc69f49abf9cc4a932e5b5b7864e38c3511cc82480d32a0"), looks := false }, kinds := [], alts := [], laidByText := true, laidKinds := [.data], laidTests := true, laidLooks := .later }
def PlanEndsUptoCardSaid : Prop := Claim7.holds Tryd.pinned (.plain (OpenSpec.upto planEndsSpec)) planEndsUptoCard

/-- THE SECOND FORM's CARD OF 'towlinelaw14.PlanSafe'. -/
def planSafeUptoCard : Claim7 := { stood := { row := planSafeUptoRow, standIns := [], harness := (true, "2c0abdba69a5b3b06bc69f49abf9cc4a932e5b5b7864e38c3511cc82480d32a0"), looks := false }, kinds := [], alts := [], laidByText := true, laidKinds := [.data], laidTests := true, laidLooks := .later }
def PlanSafeUptoCardSaid : Prop := Claim7.holds Tryd.pinned (.plain (OpenSpec.upto planSafeSpec)) planSafeUptoCard

/-- THE SECOND FORM's CARD OF 'towlinelaw14.PlanWished'. -/
def planWishedUptoCard : Claim7 := { stood := { row := planWishedUptoRow, standIns := [], harness := (true, "2c0abdba69a5b3b06bc69f49abf9cc4a932e5b5b7864e38c3511cc82480d32a0"), looks := false }, kinds := [], alts := [], laidByText := true, laidKinds := [.data], laidTests := true, laidLooks := .later }
def PlanWishedUptoCardSaid : Prop := Claim7.holds Tryd.pinned (.plain (OpenSpec.upto planWishedSpec)) planWishedUptoCard
end Rows
end Go.Proofs.YtigojnpjpagfjaaDoor
