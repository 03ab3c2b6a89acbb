/-
  No cell of these rows narrows 'for every input' (looked for: loops, veiled, ifaces, maps, wideKeys, modest, calm, conditions, laid).
  DERIVED. THE GIVEN ROWS OF THIS SEAT. 2 by the template 'for every input the law returns true; each argument reads behind the call as it read before'; 0 by the template 'total and deterministic' (their statements: YtdghfjngajhajabTotals.lean).
  GIVEN WITH THE SEED: the statements are not yours to turn. If you find one false, say at which input.
  Laid BY PROGRAM, IN A SANDBOX (cutbox-rows.mjs): the forced cells as the released guide's own fill.sh prints them over the translation aa469e74bf5bee08… (all of the seat's roots in one cut). By AI agents, Wed Nov 11 2026. No macro, syntax, notation, axiom, sorry.
-/
import Derived.Test.YtdghfjngajhajabChecked
import GoSem.Claim
import GoSem.ClaimJoined
import GoSem.ClaimMapViews
import Derived.JoinedTies
import Derived.KernelRfl
namespace Go.Proofs.Ytdghfjngajhajab
/- THE CELL 'sum', in the pinned program and in every row, IS THE sha256 OF THE DUMP (.gsa) THAT YtdghfjngajhajabProg.lean LOADS. Nothing in Lean hashes anything: it is a label: what it is worth is what the hold of that sum in a sandbox is worth. -/
noncomputable def Try.pinned : Pinned := { name := "ytdghfjngajhajab", sum := "aa469e74bf5bee08e57c010487bd553fb6c2dfe78849f80ba5d17e8352dceb46", checked := Try.checked }
namespace Rows
def none {H : Type} : Left H := { results := [], args := [] }

/-- 'towlinelaw08.LayoutComes': WHATEVER THE INPUT: true; the input reads as it did. -/
def layoutComesSpec : ChangeSpec := { name := "layoutComes", fn := fun _ => fun
  | [d1, d2] => { results := [.lit (.bool true)], args := [d1, d2] }
  | _ => none }
def layoutComesRow : OpenClaim := { program := "ytdghfjngajhajab", sum := "aa469e74bf5bee08e57c010487bd553fb6c2dfe78849f80ba5d17e8352dceb46", func := "towline/towlinelaw08.LayoutComes", spec := "layoutComes", inPlace := ["slices.overlaps[towline/api.Member]"], unfollowed := true, recurses := true, apart := false }
def LayoutComesSaid : Prop := layoutComesRow.holds Try.pinned (OpenSpec.ofChange layoutComesSpec)

/-- ITS FALSE NEIGHBOUR: 'it returns false'. Refute it at one input. -/
def layoutComesWrong : ChangeSpec := { name := "layoutComes", fn := fun _ => fun
  | [d1, d2] => { results := [.lit (.bool false)], args := [d1, d2] }
  | _ => none }
def LayoutComesWrongFalsely : Prop := layoutComesRow.holds Try.pinned (OpenSpec.ofChange layoutComesWrong)

/-- 'towlinelaw08.LayoutAround': WHATEVER THE INPUT: true; the input reads as it did. -/
def layoutAroundSpec : ChangeSpec := { name := "layoutAround", fn := fun _ => fun
  | [d] => { results := [.lit (.bool true)], args := [d] }
  | _ => none }
def layoutAroundRow : OpenClaim := { program := "ytdghfjngajhajab", sum := "aa469e74bf5bee08e57c010487bd553fb6c2dfe78849f80ba5d17e8352dceb46", func := "towline/towlinelaw08.LayoutAround", spec := "layoutAround", inPlace := ["slices.overlaps[towline/api.Member]"], unfollowed := true, recurses := true, apart := false }
def LayoutAroundSaid : Prop := layoutAroundRow.holds Try.pinned (OpenSpec.ofChange layoutAroundSpec)

/-- ITS FALSE NEIGHBOUR: 'it returns false'. Refute it at one input. -/
def layoutAroundWrong : ChangeSpec := { name := "layoutAround", fn := fun _ => fun
  | [d] => { results := [.lit (.bool false)], args := [d] }
  | _ => none }
def LayoutAroundWrongFalsely : Prop := layoutAroundRow.holds Try.pinned (OpenSpec.ofChange layoutAroundWrong)

/- THE SECOND FORM. 'bulk': how many values and letters a reading holds, each counted each time it is reached (what is shared counts as often as it is met; a slice's spare places count too). A statement '..UptoSaid' is the law's where the arguments, and the package variables that the reading takes, are together of bulk at most 1048576: NARROWER than '..Said'. Prove '..Said' where nothing that the law and all that it calls make is longer than what came in: it says more and counts as full. Else prove '..UptoSaid'. A law counts once. -/
mutual
def uptoBulk {H : Type} : DataW H → Nat
  | .lit (.string bytes) => bytes.length + 1
  | .lit _ => 1
  | .nil => 1
  | .ptr d => uptoBulk d + 1
  | .slice elems spare => uptoBulkAll elems + uptoBulkAll spare + 1
  | .agg parts => uptoBulkAll parts + 1
  | .iface _ d => uptoBulk d + 1
  | .map entries => uptoBulkEntries entries + 1
  | .held _ => 1
def uptoBulkAll {H : Type} : List (DataW H) → Nat
  | [] => 0
  | d :: r => uptoBulk d + uptoBulkAll r
def uptoBulkEntries {H : Type} : List (Lit × DataW H) → Nat
  | [] => 0
  | x :: r => uptoBulkEntry x + uptoBulkEntries r
def uptoBulkEntry {H : Type} : Lit × DataW H → Nat
  | (.string bytes, d) => bytes.length + uptoBulk d + 1
  | (_, d) => uptoBulk d + 1
 end
def uptoSmall : (H : Type) → List (DataW H) → Bool := fun _ ds => decide (uptoBulkAll ds ≤ 1048576)
def OpenSpec.upto (s : _root_.Go.ChangeSpec) : _root_.Go.OpenSpec := { _root_.Go.OpenSpec.ofChange s with cond := some uptoSmall }

/-- 'towlinelaw08.LayoutComes', WHERE WHAT IT READS IS OF BULK AT MOST 1048576: true; the input reads as it did. -/
def layoutComesUptoRow : OpenClaim := { program := "ytdghfjngajhajab", sum := "aa469e74bf5bee08e57c010487bd553fb6c2dfe78849f80ba5d17e8352dceb46", func := "towline/towlinelaw08.LayoutComes", spec := "layoutComes", inPlace := ["slices.overlaps[towline/api.Member]"], unfollowed := true, recurses := true, apart := false, narrowed := true }
def LayoutComesUptoSaid : Prop := layoutComesUptoRow.holds Try.pinned (OpenSpec.upto layoutComesSpec)

/-- 'towlinelaw08.LayoutAround', WHERE WHAT IT READS IS OF BULK AT MOST 1048576: true; the input reads as it did. -/
def layoutAroundUptoRow : OpenClaim := { program := "ytdghfjngajhajab", sum := "aa469e74bf5bee08e57c010487bd553fb6c2dfe78849f80ba5d17e8352dceb46", func := "towline/towlinelaw08.LayoutAround", spec := "layoutAround", inPlace := ["slices.overlaps[towline/api.Member]"], unfollowed := true, recurses := true, apart := false, narrowed := true }
def LayoutAroundUptoSaid : Prop := layoutAroundUptoRow.holds Try.pinned (OpenSpec.upto layoutAroundSpec)

end Rows
end Go.Proofs.Ytdghfjngajhajab
