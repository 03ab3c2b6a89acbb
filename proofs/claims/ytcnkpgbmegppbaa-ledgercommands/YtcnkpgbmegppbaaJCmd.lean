/-
  Own text: commands in plain words: which may be; the contract of ledger's Check.
-/
import Derived.Test.YtcnkpgbmegppbaaReader
import Derived.Test.YtcnkpgbmegppbaaYBase
namespace Go.Proofs.Ytcnkpgbmegppbaa.M
open Go.ChangeShapes Go.WideShapes Go.ChangeAt Go.RowKit

/-- Whether a command may be. -/
def cmdOk (k n s e : Int) : Bool :=
  (((k == 1 || k == 3 || k == 4) && decide (0 ≤ n) && decide (n < 6) && s == 0) || ((k == 2) && decide (0 ≤ n) && decide (n < 6) && decide (0 ≤ s) && decide (s < 3)) || ((k == 5) && n == 0 && decide (0 ≤ s) && decide (s < 3))) && decide (1 ≤ e) && decide (e ≤ 1099511627776)

/-- What Check answers. -/
def cmdV (b : Bool) : Int := if b then 0 else 120

theorem cmd_yes {b : Bool} (h : b = true) : (0 : Int) = cmdV b := by rw [h]; rfl
theorem cmd_no {b : Bool} (h : b = false) : (120 : Int) = cmdV b := by rw [h]; rfl

set_option maxRecDepth 20000 in
set_option maxHeartbeats 4000000 in
theorem lCheck_any (k n s e : Int) (w : World) :
    Calls Try.prog 13 #[.agg #[.int .i64 k, .int .i64 n, .int .i64 s, .int .i64 e]] w fun r w' => r = .returned (.int .i64 (cmdV (cmdOk k n s e))) ∧ Below w.heap.size w w' := by
  by_cases h1 : k = 1
  · subst h1
    go_enter Try.func13, Try.ntmps13
    go_wp2
    all_goals go_ret
    all_goals exact ⟨ret_int (by first | exact cmd_yes (by unfold cmdOk; simp [*]; omega) | exact cmd_no (by unfold cmdOk; simp [*]; omega) | exact cmd_yes (by unfold cmdOk; simp [*]) | exact cmd_no (by unfold cmdOk; simp [*])), (Below.refl _ _).alloc (Nat.le_refl _) _⟩
  by_cases h3 : k = 3
  · subst h3
    go_enter Try.func13, Try.ntmps13
    go_wp2
    all_goals go_ret
    all_goals exact ⟨ret_int (by first | exact cmd_yes (by unfold cmdOk; simp [*]; omega) | exact cmd_no (by unfold cmdOk; simp [*]; omega) | exact cmd_yes (by unfold cmdOk; simp [*]) | exact cmd_no (by unfold cmdOk; simp [*])), (Below.refl _ _).alloc (Nat.le_refl _) _⟩
  by_cases h4 : k = 4
  · subst h4
    go_enter Try.func13, Try.ntmps13
    go_wp2
    all_goals go_ret
    all_goals exact ⟨ret_int (by first | exact cmd_yes (by unfold cmdOk; simp [*]; omega) | exact cmd_no (by unfold cmdOk; simp [*]; omega) | exact cmd_yes (by unfold cmdOk; simp [*]) | exact cmd_no (by unfold cmdOk; simp [*])), (Below.refl _ _).alloc (Nat.le_refl _) _⟩
  by_cases h2 : k = 2
  · subst h2
    go_enter Try.func13, Try.ntmps13
    go_wp2
    all_goals go_ret
    all_goals exact ⟨ret_int (by first | exact cmd_yes (by unfold cmdOk; simp [*]; omega) | exact cmd_no (by unfold cmdOk; simp [*]; omega) | exact cmd_yes (by unfold cmdOk; simp [*]) | exact cmd_no (by unfold cmdOk; simp [*])), (Below.refl _ _).alloc (Nat.le_refl _) _⟩
  by_cases h5 : k = 5
  · subst h5
    go_enter Try.func13, Try.ntmps13
    go_wp2
    all_goals go_ret
    all_goals exact ⟨ret_int (by first | exact cmd_yes (by unfold cmdOk; simp [*]; omega) | exact cmd_no (by unfold cmdOk; simp [*]; omega) | exact cmd_yes (by unfold cmdOk; simp [*]) | exact cmd_no (by unfold cmdOk; simp [*])), (Below.refl _ _).alloc (Nat.le_refl _) _⟩
  have hno : cmdOk k n s e = false := by unfold cmdOk; simp [h1, h2, h3, h4, h5]
  have b1 : (k == 1) = false := by simp [h1]
  have b2 : (k == 2) = false := by simp [h2]
  have b3 : (k == 3) = false := by simp [h3]
  have b4 : (k == 4) = false := by simp [h4]
  have b5 : (k == 5) = false := by simp [h5]
  rw [hno]
  clear hno h1 h2 h3 h4 h5
  go_enter Try.func13, Try.ntmps13
  go_wp2
  all_goals go_ret
  all_goals exact ⟨rfl, (Below.refl _ _).alloc (Nat.le_refl _) _⟩

end Go.Proofs.Ytcnkpgbmegppbaa.M
