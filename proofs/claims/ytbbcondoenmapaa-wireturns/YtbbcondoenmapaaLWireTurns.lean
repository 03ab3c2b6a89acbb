/-
  Own text: the walk of the law WireTurns.
-/
import Derived.Test.YtbbcondoenmapaaAwake
import Derived.Test.YtbbcondoenmapaaOpen
namespace Go.Proofs.Ytbbcondoenmapaa.M
open Go.ChangeShapes Go.WideShapes Go.ChangeAt Go.RowKit

set_option maxRecDepth 20000 in
theorem walk_WireTurns (w : World) (n : Int) (hn : (Lit.int .i64 n).wf = true) (m : Int) (hm : (Lit.int .u64 m).wf = true) :
    Calls Try.prog 4 #[.int .i64 n, .int .u64 m] w fun e w' => e = .returned (.bool true) ∧ Below w.heap.size w w' := by
  obtain ⟨n1, n2⟩ := i64_bounds hn
  obtain ⟨m1, m2⟩ := u64_bounds hm
  have z1 := zig_bd n n1 n2
  have z2 := zag_bd m m1 (by omega)
  have c1 := fun W => turn_any n W n1 n2
  have c2 := fun W => rturn_any n W n1 n2
  have c3 := fun W => back_any m W m1 m2
  have c4 := fun W => rback_any m W m1 m2
  have c5 : ∀ W, Calls Try.prog 16 #[.int .u64 (zig n)] W fun e w' => e = .returned (.int .i64 n) ∧ w' = W := by
    intro W
    have h := back_any (zig n) W z1.1 (by omega)
    rw [zag_zig] at h
    exact h
  have c6 : ∀ W, Calls Try.prog 14 #[.int .i64 (zag m)] W fun e w' => e = .returned (.int .u64 m) ∧ w' = W := by
    intro W
    have h := turn_any (zag m) W z2.1 z2.2
    rw [zig_zag m m1] at h
    exact h
  clear hn hm n1 n2 m1 m2 z1 z2
  generalize zig n = a at c1 c2 c5
  generalize zag m = b at c3 c4 c6
  go_enter Try.func4, Try.ntmps4
  go_wp2_with fail
  refine (c1 _).mono ?_
  rintro e w1 ⟨rfl, hw⟩
  subst hw
  go_wp2_with fail
  refine (c2 _).mono ?_
  rintro e w1 ⟨rfl, hw⟩
  subst hw
  go_wp2_with fail
  refine (c3 _).mono ?_
  rintro e w1 ⟨rfl, hw⟩
  subst hw
  go_wp2_with fail
  refine (c4 _).mono ?_
  rintro e w1 ⟨rfl, hw⟩
  subst hw
  go_wp2_with fail
  refine (c1 _).mono ?_
  rintro e w1 ⟨rfl, hw⟩
  subst hw
  go_wp2_with fail
  refine (c5 _).mono ?_
  rintro e w1 ⟨rfl, hw⟩
  subst hw
  go_wp2_with fail
  refine (c3 _).mono ?_
  rintro e w1 ⟨rfl, hw⟩
  subst hw
  go_wp2_with fail
  refine (c6 _).mono ?_
  rintro e w1 ⟨rfl, hw⟩
  subst hw
  go_wp2_with fail
  refine (awake_any _).mono ?_
  rintro e w1 ⟨rfl, hb⟩
  go_wp2_with fail
  go_ret
  exact ⟨rfl, hb⟩

end Go.Proofs.Ytbbcondoenmapaa.M
