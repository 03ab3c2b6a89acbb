/-
  No cell of these rows narrows 'for every input' (looked for: loops, veiled, ifaces, maps, wideKeys, modest, calm, conditions, laid).
  DERIVED. THE GIVEN ROWS OF THIS SEAT. 3 by the template 'for every input the law returns true; each argument reads behind the call as it read before'; 0 by the template 'total and deterministic' (their statements: YtmnipfdcbmamnaaTotals.lean).
  GIVEN WITH THE SEED: the statements are not yours to turn. If you find one false, say at which input.
  Laid BY PROGRAM, IN A SANDBOX (cutbox-rows.mjs): the forced cells as the released guide's own fill.sh prints them over the translation b9a1794b4bdfdce3… (all of the seat's roots in one cut). By AI agents, Wed Nov 11 2026. No macro, syntax, notation, axiom, sorry.
-/
import Derived.Test.YtmnipfdcbmamnaaChecked
import GoSem.Claim
import GoSem.ClaimJoined
import GoSem.ClaimMapViews
import Derived.JoinedTies
import Derived.KernelRfl
namespace Go.Proofs.Ytmnipfdcbmamnaa
/- THE CELL 'sum', in the pinned program and in every row, IS THE sha256 OF THE DUMP (.gsa) THAT YtmnipfdcbmamnaaProg.lean LOADS. Nothing in Lean hashes anything: it is a label: what it is worth is what the hold of that sum in a sandbox is worth. -/
noncomputable def Try.pinned : Pinned := { name := "ytmnipfdcbmamnaa", sum := "b9a1794b4bdfdce38a9cc1effe0cf2882cbc70ee6e7d7142b9d521ecd748807a", checked := Try.checked }
namespace Rows
def none {H : Type} : Left H := { results := [], args := [] }

/-- 'towlinelaw04.LinksPlays': WHATEVER THE INPUT: true; the input reads as it did. -/
def linksPlaysSpec : ChangeSpec := { name := "linksPlays", fn := fun _ => fun
  | [d1, d2] => { results := [.lit (.bool true)], args := [d1, d2] }
  | _ => none }
def linksPlaysRow : OpenClaim := { program := "ytmnipfdcbmamnaa", sum := "b9a1794b4bdfdce38a9cc1effe0cf2882cbc70ee6e7d7142b9d521ecd748807a", func := "towline/towlinelaw04.LinksPlays", spec := "linksPlays", unfollowed := true, recurses := true, plainKeys := false, apart := false }
def LinksPlaysSaid : Prop := linksPlaysRow.holds Try.pinned (OpenSpec.ofChange linksPlaysSpec)

/-- ITS FALSE NEIGHBOUR: 'it returns false'. Refute it at one input. -/
def linksPlaysWrong : ChangeSpec := { name := "linksPlays", fn := fun _ => fun
  | [d1, d2] => { results := [.lit (.bool false)], args := [d1, d2] }
  | _ => none }
def LinksPlaysWrongFalsely : Prop := linksPlaysRow.holds Try.pinned (OpenSpec.ofChange linksPlaysWrong)

/-- 'towlinelaw04.LinksTwins': WHATEVER THE INPUT: true; the input reads as it did. -/
def linksTwinsSpec : ChangeSpec := { name := "linksTwins", fn := fun _ => fun
  | [d1, d2, d3] => { results := [.lit (.bool true)], args := [d1, d2, d3] }
  | _ => none }
def linksTwinsRow : OpenClaim := { program := "ytmnipfdcbmamnaa", sum := "b9a1794b4bdfdce38a9cc1effe0cf2882cbc70ee6e7d7142b9d521ecd748807a", func := "towline/towlinelaw04.LinksTwins", spec := "linksTwins", unfollowed := true, recurses := true, plainKeys := false, apart := false }
def LinksTwinsSaid : Prop := linksTwinsRow.holds Try.pinned (OpenSpec.ofChange linksTwinsSpec)

/-- ITS FALSE NEIGHBOUR: 'it returns false'. Refute it at one input. -/
def linksTwinsWrong : ChangeSpec := { name := "linksTwins", fn := fun _ => fun
  | [d1, d2, d3] => { results := [.lit (.bool false)], args := [d1, d2, d3] }
  | _ => none }
def LinksTwinsWrongFalsely : Prop := linksTwinsRow.holds Try.pinned (OpenSpec.ofChange linksTwinsWrong)

/-- 'towlinelaw04.LinksRefused': WHATEVER THE INPUT: true; the input reads as it did. -/
def linksRefusedSpec : ChangeSpec := { name := "linksRefused", fn := fun _ => fun
  | [d1, d2] => { results := [.lit (.bool true)], args := [d1, d2] }
  | _ => none }
def linksRefusedRow : OpenClaim := { program := "ytmnipfdcbmamnaa", sum := "b9a1794b4bdfdce38a9cc1effe0cf2882cbc70ee6e7d7142b9d521ecd748807a", func := "towline/towlinelaw04.LinksRefused", spec := "linksRefused", unfollowed := true, recurses := true, plainKeys := false, apart := false }
def LinksRefusedSaid : Prop := linksRefusedRow.holds Try.pinned (OpenSpec.ofChange linksRefusedSpec)

/-- ITS FALSE NEIGHBOUR: 'it returns false'. Refute it at one input. -/
def linksRefusedWrong : ChangeSpec := { name := "linksRefused", fn := fun _ => fun
  | [d1, d2] => { results := [.lit (.bool false)], args := [d1, d2] }
  | _ => none }
def LinksRefusedWrongFalsely : Prop := linksRefusedRow.holds Try.pinned (OpenSpec.ofChange linksRefusedWrong)

/- THE SECOND FORM. 'bulk': how many values and letters a reading holds, each counted each time it is reached (what is shared counts as often as it is met; a slice's spare places count too). A statement '..UptoSaid' is the law's where the arguments, and the package variables that the reading takes, are together of bulk at most 1048576: NARROWER than '..Said'. Prove '..Said' where nothing that the law and all that it calls make is longer than what came in: it says more and counts as full. Else prove '..UptoSaid'. A law counts once. -/
mutual
def uptoBulk {H : Type} : DataW H → Nat
  | .lit (.string bytes) => bytes.length + 1
  | .lit _ => 1
  | .nil => 1
  | .ptr d => uptoBulk d + 1
  | .slice elems spare => uptoBulkAll elems + uptoBulkAll spare + 1
  | .agg parts => uptoBulkAll parts + 1
  | .iface _ d => uptoBulk d + 1
  | .map entries => uptoBulkEntries entries + 1
  | .held _ => 1
def uptoBulkAll {H : Type} : List (DataW H) → Nat
  | [] => 0
  | d :: r => uptoBulk d + uptoBulkAll r
def uptoBulkEntries {H : Type} : List (Lit × DataW H) → Nat
  | [] => 0
  | x :: r => uptoBulkEntry x + uptoBulkEntries r
def uptoBulkEntry {H : Type} : Lit × DataW H → Nat
  | (.string bytes, d) => bytes.length + uptoBulk d + 1
  | (_, d) => uptoBulk d + 1
 end
def uptoSmall : (H : Type) → List (DataW H) → Bool := fun _ ds => decide (uptoBulkAll ds ≤ 1048576)
def OpenSpec.upto (s : _root_.Go.ChangeSpec) : _root_.Go.OpenSpec := { _root_.Go.OpenSpec.ofChange s with cond := some uptoSmall }

/-- 'towlinelaw04.LinksPlays', WHERE WHAT IT READS IS OF BULK AT MOST 1048576: true; the input reads as it did. -/
def linksPlaysUptoRow : OpenClaim := { program := "ytmnipfdcbmamnaa", sum := "b9a1794b4bdfdce38a9cc1effe0cf2882cbc70ee6e7d7142b9d521ecd748807a", func := "towline/towlinelaw04.LinksPlays", spec := "linksPlays", unfollowed := true, recurses := true, plainKeys := false, apart := false, narrowed := true }
def LinksPlaysUptoSaid : Prop := linksPlaysUptoRow.holds Try.pinned (OpenSpec.upto linksPlaysSpec)

/-- 'towlinelaw04.LinksTwins', WHERE WHAT IT READS IS OF BULK AT MOST 1048576: true; the input reads as it did. -/
def linksTwinsUptoRow : OpenClaim := { program := "ytmnipfdcbmamnaa", sum := "b9a1794b4bdfdce38a9cc1effe0cf2882cbc70ee6e7d7142b9d521ecd748807a", func := "towline/towlinelaw04.LinksTwins", spec := "linksTwins", unfollowed := true, recurses := true, plainKeys := false, apart := false, narrowed := true }
def LinksTwinsUptoSaid : Prop := linksTwinsUptoRow.holds Try.pinned (OpenSpec.upto linksTwinsSpec)

/-- 'towlinelaw04.LinksRefused', WHERE WHAT IT READS IS OF BULK AT MOST 1048576: true; the input reads as it did. -/
def linksRefusedUptoRow : OpenClaim := { program := "ytmnipfdcbmamnaa", sum := "b9a1794b4bdfdce38a9cc1effe0cf2882cbc70ee6e7d7142b9d521ecd748807a", func := "towline/towlinelaw04.LinksRefused", spec := "linksRefused", unfollowed := true, recurses := true, plainKeys := false, apart := false, narrowed := true }
def LinksRefusedUptoSaid : Prop := linksRefusedUptoRow.holds Try.pinned (OpenSpec.upto linksRefusedSpec)

end Rows
end Go.Proofs.Ytmnipfdcbmamnaa
