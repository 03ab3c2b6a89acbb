/-
  No cell of these rows narrows 'for every input' (looked for: loops, veiled, ifaces, maps, wideKeys, modest, calm, conditions, laid).
  DERIVED. THE GIVEN ROWS OF THIS SEAT. 6 by the template 'for every input the law returns true; each argument reads behind the call as it read before'; 0 by the template 'total and deterministic' (their statements: YtmfmjoibofadlaaTotals.lean).
  GIVEN WITH THE SEED: the statements are not yours to turn. If you find one false, say at which input.
  Laid BY PROGRAM, IN A SANDBOX (cutbox-rows.mjs): the forced cells as the released guide's own fill.sh prints them over the translation 3f3e80dbd5475c18… (all of the seat's roots in one cut). By AI agents, Wed Nov 11 2026. No macro, syntax, notation, axiom, sorry.
-/
import Derived.Test.YtmfmjoibofadlaaChecked
import GoSem.Claim
import GoSem.ClaimJoined
import GoSem.ClaimMapViews
import Derived.JoinedTies
import Derived.KernelRfl
namespace Go.Proofs.Ytmfmjoibofadlaa
/- THE CELL 'sum', in the pinned program and in every row, IS THE sha256 OF THE DUMP (.gsa) THAT YtmfmjoibofadlaaProg.lean LOADS. Nothing in Lean hashes anything: it is a label: what it is worth is what the hold of that sum in a sandbox is worth. -/
noncomputable def Try.pinned : Pinned := { name := "ytmfmjoibofadlaa", sum := "3f3e80dbd5475c18c50c08b821552414430ab6bcfc5a03ac350e214c80e5e9f5", checked := Try.checked }
namespace Rows
def none {H : Type} : Left H := { results := [], args := [] }

/-- 'towlinelaw07.LinRight': WHATEVER THE INPUT: true; the input reads as it did. -/
def linRightSpec : ChangeSpec := { name := "linRight", fn := fun _ => fun
  | [d] => { results := [.lit (.bool true)], args := [d] }
  | _ => none }
def linRightRow : OpenClaim := { program := "ytmfmjoibofadlaa", sum := "3f3e80dbd5475c18c50c08b821552414430ab6bcfc5a03ac350e214c80e5e9f5", func := "towline/towlinelaw07.LinRight", spec := "linRight", unfollowed := true, recurses := true, plainKeys := false, apart := false }
def LinRightSaid : Prop := linRightRow.holds Try.pinned (OpenSpec.ofChange linRightSpec)

/-- ITS FALSE NEIGHBOUR: 'it returns false'. Refute it at one input. -/
def linRightWrong : ChangeSpec := { name := "linRight", fn := fun _ => fun
  | [d] => { results := [.lit (.bool false)], args := [d] }
  | _ => none }
def LinRightWrongFalsely : Prop := linRightRow.holds Try.pinned (OpenSpec.ofChange linRightWrong)

/-- 'towlinelaw07.LinOrders': WHATEVER THE INPUT: true; the input reads as it did. -/
def linOrdersSpec : ChangeSpec := { name := "linOrders", fn := fun _ => fun
  | [d] => { results := [.lit (.bool true)], args := [d] }
  | _ => none }
def linOrdersRow : OpenClaim := { program := "ytmfmjoibofadlaa", sum := "3f3e80dbd5475c18c50c08b821552414430ab6bcfc5a03ac350e214c80e5e9f5", func := "towline/towlinelaw07.LinOrders", spec := "linOrders", unfollowed := true, recurses := true, plainKeys := false, apart := false }
def LinOrdersSaid : Prop := linOrdersRow.holds Try.pinned (OpenSpec.ofChange linOrdersSpec)

/-- ITS FALSE NEIGHBOUR: 'it returns false'. Refute it at one input. -/
def linOrdersWrong : ChangeSpec := { name := "linOrders", fn := fun _ => fun
  | [d] => { results := [.lit (.bool false)], args := [d] }
  | _ => none }
def LinOrdersWrongFalsely : Prop := linOrdersRow.holds Try.pinned (OpenSpec.ofChange linOrdersWrong)

/-- 'towlinelaw07.LinFits': WHATEVER THE INPUT: true; the input reads as it did. -/
def linFitsSpec : ChangeSpec := { name := "linFits", fn := fun _ => fun
  | [d1, d2] => { results := [.lit (.bool true)], args := [d1, d2] }
  | _ => none }
def linFitsRow : OpenClaim := { program := "ytmfmjoibofadlaa", sum := "3f3e80dbd5475c18c50c08b821552414430ab6bcfc5a03ac350e214c80e5e9f5", func := "towline/towlinelaw07.LinFits", spec := "linFits", unfollowed := true, recurses := true, plainKeys := false, apart := false }
def LinFitsSaid : Prop := linFitsRow.holds Try.pinned (OpenSpec.ofChange linFitsSpec)

/-- ITS FALSE NEIGHBOUR: 'it returns false'. Refute it at one input. -/
def linFitsWrong : ChangeSpec := { name := "linFits", fn := fun _ => fun
  | [d1, d2] => { results := [.lit (.bool false)], args := [d1, d2] }
  | _ => none }
def LinFitsWrongFalsely : Prop := linFitsRow.holds Try.pinned (OpenSpec.ofChange linFitsWrong)

/-- 'towlinelaw07.LinProves': WHATEVER THE INPUT: true; the input reads as it did. -/
def linProvesSpec : ChangeSpec := { name := "linProves", fn := fun _ => fun
  | [d] => { results := [.lit (.bool true)], args := [d] }
  | _ => none }
def linProvesRow : OpenClaim := { program := "ytmfmjoibofadlaa", sum := "3f3e80dbd5475c18c50c08b821552414430ab6bcfc5a03ac350e214c80e5e9f5", func := "towline/towlinelaw07.LinProves", spec := "linProves", unfollowed := true, recurses := true, plainKeys := false, apart := false }
def LinProvesSaid : Prop := linProvesRow.holds Try.pinned (OpenSpec.ofChange linProvesSpec)

/-- ITS FALSE NEIGHBOUR: 'it returns false'. Refute it at one input. -/
def linProvesWrong : ChangeSpec := { name := "linProves", fn := fun _ => fun
  | [d] => { results := [.lit (.bool false)], args := [d] }
  | _ => none }
def LinProvesWrongFalsely : Prop := linProvesRow.holds Try.pinned (OpenSpec.ofChange linProvesWrong)

/-- 'towlinelaw07.LinFewer': WHATEVER THE INPUT: true; the input reads as it did. -/
def linFewerSpec : ChangeSpec := { name := "linFewer", fn := fun _ => fun
  | [d1, d2] => { results := [.lit (.bool true)], args := [d1, d2] }
  | _ => none }
def linFewerRow : OpenClaim := { program := "ytmfmjoibofadlaa", sum := "3f3e80dbd5475c18c50c08b821552414430ab6bcfc5a03ac350e214c80e5e9f5", func := "towline/towlinelaw07.LinFewer", spec := "linFewer", unfollowed := true, recurses := true, plainKeys := false, apart := false }
def LinFewerSaid : Prop := linFewerRow.holds Try.pinned (OpenSpec.ofChange linFewerSpec)

/-- ITS FALSE NEIGHBOUR: 'it returns false'. Refute it at one input. -/
def linFewerWrong : ChangeSpec := { name := "linFewer", fn := fun _ => fun
  | [d1, d2] => { results := [.lit (.bool false)], args := [d1, d2] }
  | _ => none }
def LinFewerWrongFalsely : Prop := linFewerRow.holds Try.pinned (OpenSpec.ofChange linFewerWrong)

/-- 'towlinelaw07.LinSeen': WHATEVER THE INPUT: true; the input reads as it did. -/
def linSeenSpec : ChangeSpec := { name := "linSeen", fn := fun _ => fun
  | [d1, d2, d3] => { results := [.lit (.bool true)], args := [d1, d2, d3] }
  | _ => none }
def linSeenRow : OpenClaim := { program := "ytmfmjoibofadlaa", sum := "3f3e80dbd5475c18c50c08b821552414430ab6bcfc5a03ac350e214c80e5e9f5", func := "towline/towlinelaw07.LinSeen", spec := "linSeen", unfollowed := true, recurses := true, plainKeys := false, apart := false }
def LinSeenSaid : Prop := linSeenRow.holds Try.pinned (OpenSpec.ofChange linSeenSpec)

/-- ITS FALSE NEIGHBOUR: 'it returns false'. Refute it at one input. -/
def linSeenWrong : ChangeSpec := { name := "linSeen", fn := fun _ => fun
  | [d1, d2, d3] => { results := [.lit (.bool false)], args := [d1, d2, d3] }
  | _ => none }
def LinSeenWrongFalsely : Prop := linSeenRow.holds Try.pinned (OpenSpec.ofChange linSeenWrong)

/- THE SECOND FORM. 'bulk': how many values and letters a reading holds, each counted each time it is reached (what is shared counts as often as it is met; a slice's spare places count too). A statement '..UptoSaid' is the law's where the arguments, and the package variables that the reading takes, are together of bulk at most 1048576: NARROWER than '..Said'. Prove '..Said' where nothing that the law and all that it calls make is longer than what came in: it says more and counts as full. Else prove '..UptoSaid'. A law counts once. -/
mutual
def uptoBulk {H : Type} : DataW H → Nat
  | .lit (.string bytes) => bytes.length + 1
  | .lit _ => 1
  | .nil => 1
  | .ptr d => uptoBulk d + 1
  | .slice elems spare => uptoBulkAll elems + uptoBulkAll spare + 1
  | .agg parts => uptoBulkAll parts + 1
  | .iface _ d => uptoBulk d + 1
  | .map entries => uptoBulkEntries entries + 1
  | .held _ => 1
def uptoBulkAll {H : Type} : List (DataW H) → Nat
  | [] => 0
  | d :: r => uptoBulk d + uptoBulkAll r
def uptoBulkEntries {H : Type} : List (Lit × DataW H) → Nat
  | [] => 0
  | x :: r => uptoBulkEntry x + uptoBulkEntries r
def uptoBulkEntry {H : Type} : Lit × DataW H → Nat
  | (.string bytes, d) => bytes.length + uptoBulk d + 1
  | (_, d) => uptoBulk d + 1
 end
def uptoSmall : (H : Type) → List (DataW H) → Bool := fun _ ds => decide (uptoBulkAll ds ≤ 1048576)
def OpenSpec.upto (s : _root_.Go.ChangeSpec) : _root_.Go.OpenSpec := { _root_.Go.OpenSpec.ofChange s with cond := some uptoSmall }

/-- 'towlinelaw07.LinRight', WHERE WHAT IT READS IS OF BULK AT MOST 1048576: true; the input reads as it did. -/
def linRightUptoRow : OpenClaim := { program := "ytmfmjoibofadlaa", sum := "3f3e80dbd5475c18c50c08b821552414430ab6bcfc5a03ac350e214c80e5e9f5", func := "towline/towlinelaw07.LinRight", spec := "linRight", unfollowed := true, recurses := true, plainKeys := false, apart := false, narrowed := true }
def LinRightUptoSaid : Prop := linRightUptoRow.holds Try.pinned (OpenSpec.upto linRightSpec)

/-- 'towlinelaw07.LinOrders', WHERE WHAT IT READS IS OF BULK AT MOST 1048576: true; the input reads as it did. -/
def linOrdersUptoRow : OpenClaim := { program := "ytmfmjoibofadlaa", sum := "3f3e80dbd5475c18c50c08b821552414430ab6bcfc5a03ac350e214c80e5e9f5", func := "towline/towlinelaw07.LinOrders", spec := "linOrders", unfollowed := true, recurses := true, plainKeys := false, apart := false, narrowed := true }
def LinOrdersUptoSaid : Prop := linOrdersUptoRow.holds Try.pinned (OpenSpec.upto linOrdersSpec)

/-- 'towlinelaw07.LinFits', WHERE WHAT IT READS IS OF BULK AT MOST 1048576: true; the input reads as it did. -/
def linFitsUptoRow : OpenClaim := { program := "ytmfmjoibofadlaa", sum := "3f3e80dbd5475c18c50c08b821552414430ab6bcfc5a03ac350e214c80e5e9f5", func := "towline/towlinelaw07.LinFits", spec := "linFits", unfollowed := true, recurses := true, plainKeys := false, apart := false, narrowed := true }
def LinFitsUptoSaid : Prop := linFitsUptoRow.holds Try.pinned (OpenSpec.upto linFitsSpec)

/-- 'towlinelaw07.LinProves', WHERE WHAT IT READS IS OF BULK AT MOST 1048576: true; the input reads as it did. -/
def linProvesUptoRow : OpenClaim := { program := "ytmfmjoibofadlaa", sum := "3f3e80dbd5475c18c50c08b821552414430ab6bcfc5a03ac350e214c80e5e9f5", func := "towline/towlinelaw07.LinProves", spec := "linProves", unfollowed := true, recurses := true, plainKeys := false, apart := false, narrowed := true }
def LinProvesUptoSaid : Prop := linProvesUptoRow.holds Try.pinned (OpenSpec.upto linProvesSpec)

/-- 'towlinelaw07.LinFewer', WHERE WHAT IT READS IS OF BULK AT MOST 1048576: true; the input reads as it did. -/
def linFewerUptoRow : OpenClaim := { program := "ytmfmjoibofadlaa", sum := "3f3e80dbd5475c18c50c08b821552414430ab6bcfc5a03ac350e214c80e5e9f5", func := "towline/towlinelaw07.LinFewer", spec := "linFewer", unfollowed := true, recurses := true, plainKeys := false, apart := false, narrowed := true }
def LinFewerUptoSaid : Prop := linFewerUptoRow.holds Try.pinned (OpenSpec.upto linFewerSpec)

/-- 'towlinelaw07.LinSeen', WHERE WHAT IT READS IS OF BULK AT MOST 1048576: true; the input reads as it did. -/
def linSeenUptoRow : OpenClaim := { program := "ytmfmjoibofadlaa", sum := "3f3e80dbd5475c18c50c08b821552414430ab6bcfc5a03ac350e214c80e5e9f5", func := "towline/towlinelaw07.LinSeen", spec := "linSeen", unfollowed := true, recurses := true, plainKeys := false, apart := false, narrowed := true }
def LinSeenUptoSaid : Prop := linSeenUptoRow.holds Try.pinned (OpenSpec.upto linSeenSpec)

end Rows
end Go.Proofs.Ytmfmjoibofadlaa
