/-
  No cell of these rows narrows 'for every input' (looked for: loops, veiled, ifaces, maps, wideKeys, modest, calm, conditions, laid).
  DERIVED. THE GIVEN ROWS OF THIS SEAT. 3 by the template 'for every input the law returns true; each argument reads behind the call as it read before'; 0 by the template 'total and deterministic' (their statements: YtlmmidlegdmjpaaTotals.lean).
  GIVEN WITH THE SEED: the statements are not yours to turn. If you find one false, say at which input.
  Laid BY PROGRAM, IN A SANDBOX (cutbox-rows.mjs): the forced cells as the released guide's own fill.sh prints them over the translation 2802517b439562fa… (all of the seat's roots in one cut). By AI agents, Wed Nov 11 2026. No macro, syntax, notation, axiom, sorry.
-/
import Derived.Test.YtlmmidlegdmjpaaChecked
import GoSem.Claim
import GoSem.ClaimJoined
import GoSem.ClaimMapViews
import Derived.JoinedTies
import Derived.KernelRfl
namespace Go.Proofs.Ytlmmidlegdmjpaa
/- THE CELL 'sum', in the pinned program and in every row, IS THE sha256 OF THE DUMP (.gsa) THAT YtlmmidlegdmjpaaProg.lean LOADS. Nothing in Lean hashes anything: it is a label: what it is worth is what the hold of that sum in a sandbox is worth. -/
noncomputable def Try.pinned : Pinned := { name := "ytlmmidlegdmjpaa", sum := "2802517b439562fa9b927be79d862fa105f1350a31450278ef8c56c3aa95cc46", checked := Try.checked }
namespace Rows
def none {H : Type} : Left H := { results := [], args := [] }

/-- 'towlinelaw03.TagDigests': WHATEVER THE INPUT: true; the input reads as it did. -/
def tagDigestsSpec : ChangeSpec := { name := "tagDigests", fn := fun _ => fun
  | [d1, d2] => { results := [.lit (.bool true)], args := [d1, d2] }
  | _ => none }
def tagDigestsRow : OpenClaim := { program := "ytlmmidlegdmjpaa", sum := "2802517b439562fa9b927be79d862fa105f1350a31450278ef8c56c3aa95cc46", func := "towline/towlinelaw03.TagDigests", spec := "tagDigests", apart := false }
def TagDigestsSaid : Prop := tagDigestsRow.holds Try.pinned (OpenSpec.ofChange tagDigestsSpec)

/-- ITS FALSE NEIGHBOUR: 'it returns false'. Refute it at one input. -/
def tagDigestsWrong : ChangeSpec := { name := "tagDigests", fn := fun _ => fun
  | [d1, d2] => { results := [.lit (.bool false)], args := [d1, d2] }
  | _ => none }
def TagDigestsWrongFalsely : Prop := tagDigestsRow.holds Try.pinned (OpenSpec.ofChange tagDigestsWrong)

/-- 'towlinelaw03.TagShort': WHATEVER THE INPUT: true; the input reads as it did. -/
def tagShortSpec : ChangeSpec := { name := "tagShort", fn := fun _ => fun
  | [d1, d2] => { results := [.lit (.bool true)], args := [d1, d2] }
  | _ => none }
def tagShortRow : OpenClaim := { program := "ytlmmidlegdmjpaa", sum := "2802517b439562fa9b927be79d862fa105f1350a31450278ef8c56c3aa95cc46", func := "towline/towlinelaw03.TagShort", spec := "tagShort", apart := false }
def TagShortSaid : Prop := tagShortRow.holds Try.pinned (OpenSpec.ofChange tagShortSpec)

/-- ITS FALSE NEIGHBOUR: 'it returns false'. Refute it at one input. -/
def tagShortWrong : ChangeSpec := { name := "tagShort", fn := fun _ => fun
  | [d1, d2] => { results := [.lit (.bool false)], args := [d1, d2] }
  | _ => none }
def TagShortWrongFalsely : Prop := tagShortRow.holds Try.pinned (OpenSpec.ofChange tagShortWrong)

/-- 'towlinelaw03.TagBlocks': WHATEVER THE INPUT: true; the input reads as it did. -/
def tagBlocksSpec : ChangeSpec := { name := "tagBlocks", fn := fun _ => fun
  | [d1, d2, d3] => { results := [.lit (.bool true)], args := [d1, d2, d3] }
  | _ => none }
def tagBlocksRow : OpenClaim := { program := "ytlmmidlegdmjpaa", sum := "2802517b439562fa9b927be79d862fa105f1350a31450278ef8c56c3aa95cc46", func := "towline/towlinelaw03.TagBlocks", spec := "tagBlocks", apart := false }
def TagBlocksSaid : Prop := tagBlocksRow.holds Try.pinned (OpenSpec.ofChange tagBlocksSpec)

/-- ITS FALSE NEIGHBOUR: 'it returns false'. Refute it at one input. -/
def tagBlocksWrong : ChangeSpec := { name := "tagBlocks", fn := fun _ => fun
  | [d1, d2, d3] => { results := [.lit (.bool false)], args := [d1, d2, d3] }
  | _ => none }
def TagBlocksWrongFalsely : Prop := tagBlocksRow.holds Try.pinned (OpenSpec.ofChange tagBlocksWrong)

/- THE SECOND FORM. 'bulk': how many values and letters a reading holds, each counted each time it is reached (what is shared counts as often as it is met; a slice's spare places count too). A statement '..UptoSaid' is the law's where the arguments, and the package variables that the reading takes, are together of bulk at most 1048576: NARROWER than '..Said'. Prove '..Said' where nothing that the law and all that it calls make is longer than what came in: it says more and counts as full. Else prove '..UptoSaid'. A law counts once. -/
mutual
def uptoBulk {H : Type} : DataW H → Nat
  | .lit (.string bytes) => bytes.length + 1
  | .lit _ => 1
  | .nil => 1
  | .ptr d => uptoBulk d + 1
  | .slice elems spare => uptoBulkAll elems + uptoBulkAll spare + 1
  | .agg parts => uptoBulkAll parts + 1
  | .iface _ d => uptoBulk d + 1
  | .map entries => uptoBulkEntries entries + 1
  | .held _ => 1
def uptoBulkAll {H : Type} : List (DataW H) → Nat
  | [] => 0
  | d :: r => uptoBulk d + uptoBulkAll r
def uptoBulkEntries {H : Type} : List (Lit × DataW H) → Nat
  | [] => 0
  | x :: r => uptoBulkEntry x + uptoBulkEntries r
def uptoBulkEntry {H : Type} : Lit × DataW H → Nat
  | (.string bytes, d) => bytes.length + uptoBulk d + 1
  | (_, d) => uptoBulk d + 1
 end
def uptoSmall : (H : Type) → List (DataW H) → Bool := fun _ ds => decide (uptoBulkAll ds ≤ 1048576)
def OpenSpec.upto (s : _root_.Go.ChangeSpec) : _root_.Go.OpenSpec := { _root_.Go.OpenSpec.ofChange s with cond := some uptoSmall }

/-- 'towlinelaw03.TagDigests', WHERE WHAT IT READS IS OF BULK AT MOST 1048576: true; the input reads as it did. -/
def tagDigestsUptoRow : OpenClaim := { program := "ytlmmidlegdmjpaa", sum := "2802517b439562fa9b927be79d862fa105f1350a31450278ef8c56c3aa95cc46", func := "towline/towlinelaw03.TagDigests", spec := "tagDigests", apart := false, narrowed := true }
def TagDigestsUptoSaid : Prop := tagDigestsUptoRow.holds Try.pinned (OpenSpec.upto tagDigestsSpec)

/-- 'towlinelaw03.TagShort', WHERE WHAT IT READS IS OF BULK AT MOST 1048576: true; the input reads as it did. -/
def tagShortUptoRow : OpenClaim := { program := "ytlmmidlegdmjpaa", sum := "2802517b439562fa9b927be79d862fa105f1350a31450278ef8c56c3aa95cc46", func := "towline/towlinelaw03.TagShort", spec := "tagShort", apart := false, narrowed := true }
def TagShortUptoSaid : Prop := tagShortUptoRow.holds Try.pinned (OpenSpec.upto tagShortSpec)

/-- 'towlinelaw03.TagBlocks', WHERE WHAT IT READS IS OF BULK AT MOST 1048576: true; the input reads as it did. -/
def tagBlocksUptoRow : OpenClaim := { program := "ytlmmidlegdmjpaa", sum := "2802517b439562fa9b927be79d862fa105f1350a31450278ef8c56c3aa95cc46", func := "towline/towlinelaw03.TagBlocks", spec := "tagBlocks", apart := false, narrowed := true }
def TagBlocksUptoSaid : Prop := tagBlocksUptoRow.holds Try.pinned (OpenSpec.upto tagBlocksSpec)

end Rows
end Go.Proofs.Ytlmmidlegdmjpaa
