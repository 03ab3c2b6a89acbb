/-
  Own text: whether a table may be.
-/
import Derived.Test.YtnbgdkdnlfomeaaDoorBCmp
import Derived.Test.YtnbgdkdnlfomeaaDoorBCn
namespace Go.Proofs.YtnbgdkdnlfomeaaDoor.M
open Go.ChangeShapes Go.WideShapes Go.ChangeAt Go.RowKit Go.ChangeMaps Go.MapKept Go.Maps Go.Shelf Go.Proofs
set_option linter.unusedSimpArgs false

/-- A number of a place; a version up to one. -/
def isNm (n : Int) : Bool := decide (0 ≤ n) && decide (n ≤ 1099511627776)
def isVr (ix v : Int) : Bool := decide (1 ≤ v) && decide (v ≤ ix)
def isPl (ix ep : Int) : Bool := isNm ix && isNm ep && ((ix == 0) == (ep == 0))

set_option maxRecDepth 20000 in
set_option maxHeartbeats 1000000 in
theorem isVr_any (ix ep : Int) (cp : Option Addr) (cn cc : Nat) (dp : Option Addr) (dn dc : Nat) (v : Int) (w : World) :
    Calls Tryd.prog 65 #[.agg #[.int .i64 ix, .int .i64 ep, .slice cp cn cc, .slice dp dn dc], .int .i64 v] w fun e w' => e = .returned (.bool (isVr ix v)) ∧ Below w.heap.size w w' := by
  have hb := below_alloc' w (.cells #[.int .i64 ix, .int .i64 ep, .slice cp cn cc, .slice dp dn dc] 25)
  have c0 := (At.new 25 w #[.int .i64 ix, .int .i64 ep, .slice cp cn cc, .slice dp dn dc]).cell 0
  simp only [List.getElem?_toArray, List.getElem?_cons_zero, List.getElem?_cons_succ] at c0
  generalize hW : (w.alloc (.cells #[.int .i64 ix, .int .i64 ep, .slice cp cn cc, .slice dp dn dc] 25)) = W0 at *
  by_cases h1 : 1 ≤ v
  · have hr : isVr ix v = decide (v ≤ ix) := by unfold isVr; rw [decide_eq_true h1, Bool.true_and]
    rw [hr]
    go_enter Tryd.func65, Tryd.ntmps65
    go_wp2_with fail
    go_ret
    exact ⟨rfl, hb⟩
  · have hr : isVr ix v = false := by unfold isVr; rw [decide_eq_false h1, Bool.false_and]
    rw [hr]
    go_enter Tryd.func65, Tryd.ntmps65
    go_wp2_with fail
    go_ret
    exact ⟨rfl, hb⟩

set_option maxRecDepth 20000 in
set_option maxHeartbeats 1000000 in
theorem isNm_any (n : Int) (w : World) : Calls Tryd.prog 62 #[.int .i64 n] w fun e w' => e = .returned (.bool (isNm n)) ∧ w' = w := by
  by_cases h1 : 0 ≤ n
  · have hr : isNm n = decide (n ≤ 1099511627776) := by unfold isNm; rw [decide_eq_true h1, Bool.true_and]
    rw [hr]
    go_enter Tryd.func62, Tryd.ntmps62
    go_wp2_with fail
    go_ret
    exact ⟨rfl, rfl⟩
  · have hr : isNm n = false := by unfold isNm; rw [decide_eq_false h1, Bool.false_and]
    rw [hr]
    go_enter Tryd.func62, Tryd.ntmps62
    go_wp2_with fail
    go_ret
    exact ⟨rfl, rfl⟩

set_option maxRecDepth 20000 in
set_option maxHeartbeats 1000000 in
theorem isPl_any (ix ep : Int) (cp : Option Addr) (cn cc : Nat) (dp : Option Addr) (dn dc : Nat) (w : World) :
    Calls Tryd.prog 41 #[.agg #[.int .i64 ix, .int .i64 ep, .slice cp cn cc, .slice dp dn dc]] w fun e w' => e = .returned (.bool (isPl ix ep)) ∧ Below w.heap.size w w' := by
  have hb := below_alloc' w (.cells #[.int .i64 ix, .int .i64 ep, .slice cp cn cc, .slice dp dn dc] 25)
  have c0 := (At.new 25 w #[.int .i64 ix, .int .i64 ep, .slice cp cn cc, .slice dp dn dc]).cell 0
  have c1 := (At.new 25 w #[.int .i64 ix, .int .i64 ep, .slice cp cn cc, .slice dp dn dc]).cell 1
  simp only [List.getElem?_toArray, List.getElem?_cons_zero, List.getElem?_cons_succ] at c0 c1
  generalize hW : (w.alloc (.cells #[.int .i64 ix, .int .i64 ep, .slice cp cn cc, .slice dp dn dc] 25)) = W0 at *
  have g1 := isNm_any ix W0
  have g2 := isNm_any ep W0
  have hr : isPl ix ep = (isNm ix && isNm ep && ((ix == 0) == (ep == 0))) := rfl
  rw [hr]
  generalize isNm ix = p1 at *
  generalize isNm ep = p2 at *
  clear hr
  cases p1 with
  | false =>
    simp only [Bool.false_and]
    go_enter Tryd.func41, Tryd.ntmps41
    go_wp2_with fail
    refine g1.mono ?_
    rintro e w1 ⟨rfl, rfl⟩
    go_wp2_with fail
    go_ret
    exact ⟨rfl, hb⟩
  | true =>
    cases p2 with
    | false =>
      simp only [Bool.true_and, Bool.false_and]
      go_enter Tryd.func41, Tryd.ntmps41
      go_wp2_with fail
      refine g1.mono ?_
      rintro e w1 ⟨rfl, rfl⟩
      go_wp2_with fail
      refine g2.mono ?_
      rintro e w2 ⟨rfl, rfl⟩
      go_wp2_with fail
      go_ret
      exact ⟨rfl, hb⟩
    | true =>
      simp only [Bool.true_and]
      go_enter Tryd.func41, Tryd.ntmps41
      go_wp2_with fail
      refine g1.mono ?_
      rintro e w1 ⟨rfl, rfl⟩
      go_wp2_with fail
      refine g2.mono ?_
      rintro e w2 ⟨rfl, rfl⟩
      go_wp2_with fail
      go_ret
      exact ⟨by first | rfl | simp, hb⟩

end Go.Proofs.YtnbgdkdnlfomeaaDoor.M
