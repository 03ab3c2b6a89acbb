/-
  NARROWER THAN 'FOR EVERY INPUT', by the rows' own cells (each row's printed sentence says how): PlanChecks: laid · PlanNext: laid · PlanAll: laid · PlanEnds: laid · PlanSafe: laid · PlanWished: laid.
  DERIVED. THE GIVEN ROWS OF THIS SEAT. 6 by the template 'for every input the law returns true; each argument reads behind the call as it read before'; 0 by the template 'total and deterministic' (their statements: YtigojnpjpagfjaaDoorTotals.lean).
  GIVEN WITH THE SEED: the statements are not yours to turn. If you find one false, say at which input.
  Laid BY PROGRAM, IN A SANDBOX (cutbox-rows.mjs): the forced cells as the released guide's own fill.sh prints them over the translation ca05c0a240eea7ac… (all of the seat's roots in one cut). By AI agents, Wed Nov 11 2026. No macro, syntax, notation, axiom, sorry.
-/
import Derived.Test.YtigojnpjpagfjaaDoorChecked
import GoSem.Claim
import GoSem.ClaimJoined
import GoSem.ClaimMapViews
import Derived.JoinedTies
import Derived.KernelRfl
namespace Go.Proofs.YtigojnpjpagfjaaDoor
/- THE CELL 'sum', in the pinned program and in every row, IS THE sha256 OF THE DUMP (.gsa) THAT YtigojnpjpagfjaaDoorProg.lean LOADS. Nothing in Lean hashes anything: it is a label: what it is worth is what the hold of that sum in a sandbox is worth. -/
noncomputable def Tryd.pinned : Pinned := { name := "ytigojnpjpagfjaadoor", sum := "ca05c0a240eea7ac356392acfbd3b03ced67c080fe3ea41d97959229d287c0e6", checked := Tryd.checked }
namespace Rows
def none {H : Type} : Left H := { results := [], args := [] }

/- WHAT THE LISTED PACKAGE-LEVEL VARIABLES READ AS WHEN THE CALL BEGINS. Each datum BY PROGRAM (the guide's laid-datum.mjs) off the statement by which the dump's own 'gosem.cut.vars' lays the variable. In a bare row this is a premise. The card (YtigojnpjpagfjaaDoorCards.lean) ties it to the program's text. -/
def laid_math_bits_deBruijn64tab {H : Type} : DataW H := .agg [.lit (.int .u8 0), .lit (.int .u8 1), .lit (.int .u8 56), .lit (.int .u8 2), .lit (.int .u8 57), .lit (.int .u8 49), .lit (.int .u8 28), .lit (.int .u8 3), .lit (.int .u8 61), .lit (.int .u8 58), .lit (.int .u8 42), .lit (.int .u8 50), .lit (.int .u8 38), .lit (.int .u8 29), .lit (.int .u8 17), .lit (.int .u8 4), .lit (.int .u8 62), .lit (.int .u8 47), .lit (.int .u8 59), .lit (.int .u8 36), .lit (.int .u8 45), .lit (.int .u8 43), .lit (.int .u8 51), .lit (.int .u8 22), .lit (.int .u8 53), .lit (.int .u8 39), .lit (.int .u8 33), .lit (.int .u8 30), .lit (.int .u8 24), .lit (.int .u8 18), .lit (.int .u8 12), .lit (.int .u8 5), .lit (.int .u8 63), .lit (.int .u8 55), .lit (.int .u8 48), .lit (.int .u8 27), .lit (.int .u8 60), .lit (.int .u8 41), .lit (.int .u8 37), .lit (.int .u8 16), .lit (.int .u8 46), .lit (.int .u8 35), .lit (.int .u8 44), .lit (.int .u8 21), .lit (.int .u8 52), .lit (.int .u8 32), .lit (.int .u8 23), .lit (.int .u8 11), .lit (.int .u8 54), .lit (.int .u8 26), .lit (.int .u8 40), .lit (.int .u8 15), .lit (.int .u8 34), .lit (.int .u8 20), .lit (.int .u8 31), .lit (.int .u8 10), .lit (.int .u8 25), .lit (.int .u8 14), .lit (.int .u8 19), .lit (.int .u8 9), .lit (.int .u8 13), .lit (.int .u8 8), .lit (.int .u8 7), .lit (.int .u8 6)]

/-- 'towlinelaw14.PlanChecks': WHATEVER THE INPUT: true; the input reads as it did. -/
def planChecksSpec : ChangeSpec := { name := "planChecks", fn := fun _ => fun
  | [d1, d2, d3] => { results := [.lit (.bool true)], args := [d1, d2, d3] }
  | _ => none }
def planChecksRow : OpenClaim := { program := "ytigojnpjpagfjaadoor", sum := "ca05c0a240eea7ac356392acfbd3b03ced67c080fe3ea41d97959229d287c0e6", func := "towline/towlinelaw14.PlanChecks", spec := "planChecks", inPlace := ["slices.overlaps[towline/api.Member]"], unfollowed := true, recurses := true, named := ["math/bits.deBruijn64tab"], apart := false, laid := [("math/bits.deBruijn64tab", laid_math_bits_deBruijn64tab)] }
def PlanChecksSaid : Prop := planChecksRow.holds Tryd.pinned (OpenSpec.ofChange planChecksSpec)

/-- ITS FALSE NEIGHBOUR: 'it returns false'. Refute it at one input. -/
def planChecksWrong : ChangeSpec := { name := "planChecks", fn := fun _ => fun
  | [d1, d2, d3] => { results := [.lit (.bool false)], args := [d1, d2, d3] }
  | _ => none }
def PlanChecksWrongFalsely : Prop := planChecksRow.holds Tryd.pinned (OpenSpec.ofChange planChecksWrong)

/-- 'towlinelaw14.PlanNext': WHATEVER THE INPUT: true; the input reads as it did. -/
def planNextSpec : ChangeSpec := { name := "planNext", fn := fun _ => fun
  | [d1, d2, d3, d4] => { results := [.lit (.bool true)], args := [d1, d2, d3, d4] }
  | _ => none }
def planNextRow : OpenClaim := { program := "ytigojnpjpagfjaadoor", sum := "ca05c0a240eea7ac356392acfbd3b03ced67c080fe3ea41d97959229d287c0e6", func := "towline/towlinelaw14.PlanNext", spec := "planNext", inPlace := ["slices.overlaps[towline/api.Member]"], unfollowed := true, recurses := true, named := ["math/bits.deBruijn64tab"], apart := false, laid := [("math/bits.deBruijn64tab", laid_math_bits_deBruijn64tab)] }
def PlanNextSaid : Prop := planNextRow.holds Tryd.pinned (OpenSpec.ofChange planNextSpec)

/-- ITS FALSE NEIGHBOUR: 'it returns false'. Refute it at one input. -/
def planNextWrong : ChangeSpec := { name := "planNext", fn := fun _ => fun
  | [d1, d2, d3, d4] => { results := [.lit (.bool false)], args := [d1, d2, d3, d4] }
  | _ => none }
def PlanNextWrongFalsely : Prop := planNextRow.holds Tryd.pinned (OpenSpec.ofChange planNextWrong)

/-- 'towlinelaw14.PlanAll': WHATEVER THE INPUT: true; the input reads as it did. -/
def planAllSpec : ChangeSpec := { name := "planAll", fn := fun _ => fun
  | [d1, d2, d3, d4] => { results := [.lit (.bool true)], args := [d1, d2, d3, d4] }
  | _ => none }
def planAllRow : OpenClaim := { program := "ytigojnpjpagfjaadoor", sum := "ca05c0a240eea7ac356392acfbd3b03ced67c080fe3ea41d97959229d287c0e6", func := "towline/towlinelaw14.PlanAll", spec := "planAll", inPlace := ["slices.overlaps[towline/api.Member]"], unfollowed := true, recurses := true, named := ["math/bits.deBruijn64tab"], apart := false, laid := [("math/bits.deBruijn64tab", laid_math_bits_deBruijn64tab)] }
def PlanAllSaid : Prop := planAllRow.holds Tryd.pinned (OpenSpec.ofChange planAllSpec)

/-- ITS FALSE NEIGHBOUR: 'it returns false'. Refute it at one input. -/
def planAllWrong : ChangeSpec := { name := "planAll", fn := fun _ => fun
  | [d1, d2, d3, d4] => { results := [.lit (.bool false)], args := [d1, d2, d3, d4] }
  | _ => none }
def PlanAllWrongFalsely : Prop := planAllRow.holds Tryd.pinned (OpenSpec.ofChange planAllWrong)

/-- 'towlinelaw14.PlanEnds': WHATEVER THE INPUT: true; the input reads as it did. -/
def planEndsSpec : ChangeSpec := { name := "planEnds", fn := fun _ => fun
  | [d1, d2, d3, d4] => { results := [.lit (.bool true)], args := [d1, d2, d3, d4] }
  | _ => none }
def planEndsRow : OpenClaim := { program := "ytigojnpjpagfjaadoor", sum := "ca05c0a240eea7ac356392acfbd3b03ced67c080fe3ea41d97959229d287c0e6", func := "towline/towlinelaw14.PlanEnds", spec := "planEnds", inPlace := ["slices.overlaps[towline/api.Member]"], unfollowed := true, recurses := true, named := ["math/bits.deBruijn64tab"], apart := false, laid := [("math/bits.deBruijn64tab", laid_math_bits_deBruijn64tab)] }
def PlanEndsSaid : Prop := planEndsRow.holds Tryd.pinned (OpenSpec.ofChange planEndsSpec)

/-- ITS FALSE NEIGHBOUR: 'it returns false'. Refute it at one input. -/
def planEndsWrong : ChangeSpec := { name := "planEnds", fn := fun _ => fun
  | [d1, d2, d3, d4] => { results := [.lit (.bool false)], args := [d1, d2, d3, d4] }
  | _ => none }
def PlanEndsWrongFalsely : Prop := planEndsRow.holds Tryd.pinned (OpenSpec.ofChange planEndsWrong)

/-- 'towlinelaw14.PlanSafe': WHATEVER THE INPUT: true; the input reads as it did. -/
def planSafeSpec : ChangeSpec := { name := "planSafe", fn := fun _ => fun
  | [d1, d2, d3, d4] => { results := [.lit (.bool true)], args := [d1, d2, d3, d4] }
  | _ => none }
def planSafeRow : OpenClaim := { program := "ytigojnpjpagfjaadoor", sum := "ca05c0a240eea7ac356392acfbd3b03ced67c080fe3ea41d97959229d287c0e6", func := "towline/towlinelaw14.PlanSafe", spec := "planSafe", inPlace := ["slices.overlaps[towline/api.Member]"], unfollowed := true, recurses := true, named := ["math/bits.deBruijn64tab"], apart := false, laid := [("math/bits.deBruijn64tab", laid_math_bits_deBruijn64tab)] }
def PlanSafeSaid : Prop := planSafeRow.holds Tryd.pinned (OpenSpec.ofChange planSafeSpec)

/-- ITS FALSE NEIGHBOUR: 'it returns false'. Refute it at one input. -/
def planSafeWrong : ChangeSpec := { name := "planSafe", fn := fun _ => fun
  | [d1, d2, d3, d4] => { results := [.lit (.bool false)], args := [d1, d2, d3, d4] }
  | _ => none }
def PlanSafeWrongFalsely : Prop := planSafeRow.holds Tryd.pinned (OpenSpec.ofChange planSafeWrong)

/-- 'towlinelaw14.PlanWished': WHATEVER THE INPUT: true; the input reads as it did. -/
def planWishedSpec : ChangeSpec := { name := "planWished", fn := fun _ => fun
  | [d1, d2, d3, d4] => { results := [.lit (.bool true)], args := [d1, d2, d3, d4] }
  | _ => none }
def planWishedRow : OpenClaim := { program := "ytigojnpjpagfjaadoor", sum := "ca05c0a240eea7ac356392acfbd3b03ced67c080fe3ea41d97959229d287c0e6", func := "towline/towlinelaw14.PlanWished", spec := "planWished", inPlace := ["slices.overlaps[towline/api.Member]"], unfollowed := true, recurses := true, named := ["math/bits.deBruijn64tab"], apart := false, laid := [("math/bits.deBruijn64tab", laid_math_bits_deBruijn64tab)] }
def PlanWishedSaid : Prop := planWishedRow.holds Tryd.pinned (OpenSpec.ofChange planWishedSpec)

/-- ITS FALSE NEIGHBOUR: 'it returns false'. Refute it at one input. -/
def planWishedWrong : ChangeSpec := { name := "planWished", fn := fun _ => fun
  | [d1, d2, d3, d4] => { results := [.lit (.bool false)], args := [d1, d2, d3, d4] }
  | _ => none }
def PlanWishedWrongFalsely : Prop := planWishedRow.holds Tryd.pinned (OpenSpec.ofChange planWishedWrong)

/- THE SECOND FORM. 'bulk': how many values and letters a reading holds, each counted each time it is reached (what is shared counts as often as it is met; a slice's spare places count too). A statement '..UptoSaid' is the law's where the arguments, and the package variables that the reading takes, are together of bulk at most 1048576: NARROWER than '..Said'. Prove '..Said' where nothing that the law and all that it calls make is longer than what came in: it says more and counts as full. Else prove '..UptoSaid'. A law counts once. -/
mutual
def uptoBulk {H : Type} : DataW H → Nat
  | .lit (.string bytes) => bytes.length + 1
  | .lit _ => 1
  | .nil => 1
  | .ptr d => uptoBulk d + 1
  | .slice elems spare => uptoBulkAll elems + uptoBulkAll spare + 1
  | .agg parts => uptoBulkAll parts + 1
  | .iface _ d => uptoBulk d + 1
  | .map entries => uptoBulkEntries entries + 1
  | .held _ => 1
def uptoBulkAll {H : Type} : List (DataW H) → Nat
  | [] => 0
  | d :: r => uptoBulk d + uptoBulkAll r
def uptoBulkEntries {H : Type} : List (Lit × DataW H) → Nat
  | [] => 0
  | x :: r => uptoBulkEntry x + uptoBulkEntries r
def uptoBulkEntry {H : Type} : Lit × DataW H → Nat
  | (.string bytes, d) => bytes.length + uptoBulk d + 1
  | (_, d) => uptoBulk d + 1
 end
def uptoSmall : (H : Type) → List (DataW H) → Bool := fun _ ds => decide (uptoBulkAll ds ≤ 1048576)
def OpenSpec.upto (s : _root_.Go.ChangeSpec) : _root_.Go.OpenSpec := { _root_.Go.OpenSpec.ofChange s with cond := some uptoSmall }

/-- 'towlinelaw14.PlanChecks', WHERE WHAT IT READS IS OF BULK AT MOST 1048576: true; the input reads as it did. -/
def planChecksUptoRow : OpenClaim := { program := "ytigojnpjpagfjaadoor", sum := "ca05c0a240eea7ac356392acfbd3b03ced67c080fe3ea41d97959229d287c0e6", func := "towline/towlinelaw14.PlanChecks", spec := "planChecks", inPlace := ["slices.overlaps[towline/api.Member]"], unfollowed := true, recurses := true, named := ["math/bits.deBruijn64tab"], apart := false, laid := [("math/bits.deBruijn64tab", laid_math_bits_deBruijn64tab)], narrowed := true }
def PlanChecksUptoSaid : Prop := planChecksUptoRow.holds Tryd.pinned (OpenSpec.upto planChecksSpec)

/-- 'towlinelaw14.PlanNext', WHERE WHAT IT READS IS OF BULK AT MOST 1048576: true; the input reads as it did. -/
def planNextUptoRow : OpenClaim := { program := "ytigojnpjpagfjaadoor", sum := "ca05c0a240eea7ac356392acfbd3b03ced67c080fe3ea41d97959229d287c0e6", func := "towline/towlinelaw14.PlanNext", spec := "planNext", inPlace := ["slices.overlaps[towline/api.Member]"], unfollowed := true, recurses := true, named := ["math/bits.deBruijn64tab"], apart := false, laid := [("math/bits.deBruijn64tab", laid_math_bits_deBruijn64tab)], narrowed := true }
def PlanNextUptoSaid : Prop := planNextUptoRow.holds Tryd.pinned (OpenSpec.upto planNextSpec)

/-- 'towlinelaw14.PlanAll', WHERE WHAT IT READS IS OF BULK AT MOST 1048576: true; the input reads as it did. -/
def planAllUptoRow : OpenClaim := { program := "ytigojnpjpagfjaadoor", sum := "ca05c0a240eea7ac356392acfbd3b03ced67c080fe3ea41d97959229d287c0e6", func := "towline/towlinelaw14.PlanAll", spec := "planAll", inPlace := ["slices.overlaps[towline/api.Member]"], unfollowed := true, recurses := true, named := ["math/bits.deBruijn64tab"], apart := false, laid := [("math/bits.deBruijn64tab", laid_math_bits_deBruijn64tab)], narrowed := true }
def PlanAllUptoSaid : Prop := planAllUptoRow.holds Tryd.pinned (OpenSpec.upto planAllSpec)

/-- 'towlinelaw14.PlanEnds', WHERE WHAT IT READS IS OF BULK AT MOST 1048576: true; the input reads as it did. -/
def planEndsUptoRow : OpenClaim := { program := "ytigojnpjpagfjaadoor", sum := "ca05c0a240eea7ac356392acfbd3b03ced67c080fe3ea41d97959229d287c0e6", func := "towline/towlinelaw14.PlanEnds", spec := "planEnds", inPlace := ["slices.overlaps[towline/api.Member]"], unfollowed := true, recurses := true, named := ["math/bits.deBruijn64tab"], apart := false, laid := [("math/bits.deBruijn64tab", laid_math_bits_deBruijn64tab)], narrowed := true }
def PlanEndsUptoSaid : Prop := planEndsUptoRow.holds Tryd.pinned (OpenSpec.upto planEndsSpec)

/-- 'towlinelaw14.PlanSafe', WHERE WHAT IT READS IS OF BULK AT MOST 1048576: true; the input reads as it did. -/
def planSafeUptoRow : OpenClaim := { program := "ytigojnpjpagfjaadoor", sum := "ca05c0a240eea7ac356392acfbd3b03ced67c080fe3ea41d97959229d287c0e6", func := "towline/towlinelaw14.PlanSafe", spec := "planSafe", inPlace := ["slices.overlaps[towline/api.Member]"], unfollowed := true, recurses := true, named := ["math/bits.deBruijn64tab"], apart := false, laid := [("math/bits.deBruijn64tab", laid_math_bits_deBruijn64tab)], narrowed := true }
def PlanSafeUptoSaid : Prop := planSafeUptoRow.holds Tryd.pinned (OpenSpec.upto planSafeSpec)

/-- 'towlinelaw14.PlanWished', WHERE WHAT IT READS IS OF BULK AT MOST 1048576: true; the input reads as it did. -/
def planWishedUptoRow : OpenClaim := { program := "ytigojnpjpagfjaadoor", sum := "ca05c0a240eea7ac356392acfbd3b03ced67c080fe3ea41d97959229d287c0e6", func := "towline/towlinelaw14.PlanWished", spec := "planWished", inPlace := ["slices.overlaps[towline/api.Member]"], unfollowed := true, recurses := true, named := ["math/bits.deBruijn64tab"], apart := false, laid := [("math/bits.deBruijn64tab", laid_math_bits_deBruijn64tab)], narrowed := true }
def PlanWishedUptoSaid : Prop := planWishedUptoRow.holds Tryd.pinned (OpenSpec.upto planWishedSpec)

end Rows
end Go.Proofs.YtigojnpjpagfjaaDoor
