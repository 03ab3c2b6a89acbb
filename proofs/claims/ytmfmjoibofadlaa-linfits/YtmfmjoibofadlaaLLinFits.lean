/-
  Own text: the walk of LinFits.
-/
import Derived.Test.YtmfmjoibofadlaaOAw
import Derived.Test.YtmfmjoibofadlaaOFitP
namespace Go.Proofs.Ytmfmjoibofadlaa.M
open Go.ChangeShapes Go.WideShapes Go.ChangeAt Go.RowKit
set_option linter.unusedSimpArgs false

set_option maxRecDepth 20000 in
set_option maxHeartbeats 1000000 in
theorem walk_LinFits (w : World) (rp : Option Addr) (rn rc : Nat) (row : List Int) (hrow : Rd .i64 w rp rn rc row) (_hb : ∀ x ∈ row, (Lit.int .i64 x).wf = true) (p : Option Addr) (n c : Nat) (L : List Lo) (hr : RdO w p n c L) :
    Calls Try.prog 5 #[.slice rp rn rc, .slice p n c] w fun e w' => e = .returned (.bool true) ∧ Below w.heap.size w w' := by
  have hA := fun W => awake_any W
  by_cases h1 : 60 < rn
  · have hi : (60 : Int) < (rn : Int) := by omega
    clear hr hrow
    go_enter Try.func5, Try.ntmps5
    go_wp2_with fail
    refine (hA _).mono ?_
    rintro e w1 ⟨rfl, hb1⟩
    clear hA
    go_wp2_with fail
    go_ret
    exact ⟨rfl, hb1⟩
  · have hi : ¬ (60 : Int) < (rn : Int) := by omega
    by_cases h2 : 60 < n
    · have hj : (60 : Int) < (n : Int) := by omega
      clear hr hrow
      go_enter Try.func5, Try.ntmps5
      go_wp2_with fail
      refine (hA _).mono ?_
      rintro e w1 ⟨rfl, hb1⟩
      clear hA
      go_wp2_with fail
      go_ret
      exact ⟨rfl, hb1⟩
    · have hj : ¬ (60 : Int) < (n : Int) := by omega
      have c1 := fits_any rp rn rc row p n c L w hrow (by omega) hr
      have c2 := fun W (hW : Below w.heap.size w W) => refFits_any rp rn rc row p n c L W (hrow.below hW) (by omega) (hr.below hW)
      rw [fits_same] at c1
      generalize rfO L row = z at *
      clear hr hrow
      go_enter Try.func5, Try.ntmps5
      go_wp2_with fail
      refine c1.mono ?_
      rintro e w1 ⟨rfl, hb1⟩
      clear c1
      go_wp2_with fail
      refine (c2 w1 hb1).mono ?_
      rintro e w2 ⟨rfl, hb2⟩
      have hbb2 := hb1.trans (hb2.mono hb1.size)
      clear c2
      go_wp2_with fail
      refine (hA _).mono ?_
      rintro e w3 ⟨rfl, hb3⟩
      have hbb3 := hbb2.trans (hb3.mono hbb2.size)
      clear hA
      go_wp2_with fail
      go_ret
      exact ⟨rfl, hbb3⟩

end Go.Proofs.Ytmfmjoibofadlaa.M
