/-
  Own text: contracts of the reference's Check of ways, of its 'may', of route's isSite, askerAt, askerOf.
-/
import Derived.Test.YtdjeafaaclhpkabDoorZCheck
import Derived.Test.YtdjeafaaclhpkabDoorYCheck
import Derived.Test.YtdjeafaaclhpkabDoorYRefC
namespace Go.Proofs.YtdjeafaaclhpkabDoor.M
open Go.ChangeShapes Go.WideShapes Go.ChangeAt Go.RowKit

theorem ArrI.drewN {t : TypeId} {k : IntKind} {w : World} {g : Nat} {xs : List Int} (h : ArrI t k w g xs) (n : Nat) : ArrI t k (w.drewN n) g xs := h

theorem ArrI.drew {t : TypeId} {k : IntKind} {w : World} {g : Nat} {xs : List Int} (h : ArrI t k w g xs) : ArrI t k w.drew g xs := h

/-- Whether a number is a site. -/
def isSt (n : Int) : Bool := decide (0 ≤ n) && decide (n < 3)

set_option maxRecDepth 20000 in
theorem isSite_any (n : Int) (w : World) : Calls Tryd.prog 25 #[.int .i64 n] w fun r w' => r = .returned (.bool (isSt n)) ∧ w' = w := by
  unfold isSt
  go_enter Tryd.func25, Tryd.ntmps25
  go_wp2
  all_goals go_ret
  all_goals exact ⟨ret_bool (by first | (simp [*]; done) | (simp [*]; omega)), rfl⟩

end Go.Proofs.YtdjeafaaclhpkabDoor.M
