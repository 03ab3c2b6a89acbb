/-
  Own text: the walk of LinRight.
-/
import Derived.Test.YtmfmjoibofadlaaOAw
import Derived.Test.YtmfmjoibofadlaaORef
namespace Go.Proofs.Ytmfmjoibofadlaa.M
open Go.ChangeShapes Go.WideShapes Go.ChangeAt Go.RowKit
set_option linter.unusedSimpArgs false

set_option maxRecDepth 20000 in
set_option maxHeartbeats 1000000 in
theorem walk_LinRight (w : World) (p : Option Addr) (n c : Nat) (L : List Lo) (hr : RdO w p n c L) :
    Calls Try.prog 3 #[.slice p n c] w fun e w' => e = .returned (.bool true) ∧ Below w.heap.size w w' := by
  have hA := fun W => awake_any W
  by_cases h60 : 60 < n
  · have hi : (60 : Int) < (n : Int) := by omega
    clear hr
    go_enter Try.func3, Try.ntmps3
    go_wp2_with fail
    refine (hA _).mono ?_
    rintro e w1 ⟨rfl, hb1⟩
    clear hA
    go_wp2_with fail
    go_ret
    exact ⟨rfl, hb1⟩
  · have hi : ¬ (60 : Int) < (n : Int) := by omega
    have h1 := right_any p n c L w hr
    have h2 := fun W (hW : Below w.heap.size w W) => refRight_any p n c L W (hr.below hW)
    clear hr
    go_enter Try.func3, Try.ntmps3
    go_wp2_with fail
    refine h1.mono ?_
    rintro e w1 ⟨rfl, hb1⟩
    clear h1
    go_wp2_with fail
    refine (h2 w1 hb1).mono ?_
    rintro e w2 ⟨rfl, hb2⟩
    have hbb2 := hb1.trans (hb2.mono hb1.size)
    clear h2
    go_wp2_with fail
    refine (hA _).mono ?_
    rintro e w3 ⟨rfl, hb3⟩
    have hbb3 := hbb2.trans (hb3.mono hbb2.size)
    clear hA
    go_wp2_with fail
    go_ret
    exact ⟨rfl, hbb3⟩

end Go.Proofs.Ytmfmjoibofadlaa.M
