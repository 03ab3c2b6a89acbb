/-
  Own text: the walk of the law MaskShare.
-/
import Derived.Test.YtbbcondoenmapadDoorKPop
import Derived.Test.YtbbcondoenmapadDoorOpen
namespace Go.Proofs.YtbbcondoenmapadDoor.M
open Go.ChangeShapes Go.WideShapes Go.ChangeAt Go.RowKit

set_option maxRecDepth 20000 in
theorem walk_MaskShare (w : World) (hT : Tab w) (a : Int) (wa : (Lit.int .u64 a).wf = true) (b : Int) (wb : (Lit.int .u64 b).wf = true) (o : Int) (wo : (Lit.int .u64 o).wf = true) :
    Calls Tryd.prog 5 #[.int .u64 a, .int .u64 b, .int .u64 o] w fun e w' => e = .returned (.bool true) ∧ Below w.heap.size w w' := by
  have ba := u64_bounds wa
  have bb := u64_bounds wb
  have bo := u64_bounds wo
  obtain ⟨x, rfl⟩ := Int.eq_ofNat_of_zero_le ba.1
  obtain ⟨y, rfl⟩ := Int.eq_ofNat_of_zero_le bb.1
  obtain ⟨u, rfl⟩ := Int.eq_ofNat_of_zero_le bo.1
  have hx : x < 18446744073709551616 := by omega
  have hy : y < 18446744073709551616 := by omega
  have hu : u < 18446744073709551616 := by omega
  clear wa wb wo ba bb bo
  have c1 := most_any x u w hx hu
  have c2 := most_any y u w hy hu
  have c3 := and_any x y w hx hy
  have c4 := and_any (x &&& y) u w (and_lt64 hx) hu
  have c5 := len_any (x &&& y &&& u) w (and_lt64 (and_lt64 hx))
  have c6 := awake_any w hT
  have hs := pop_share x y u
  generalize pop (x &&& y &&& u) = p at c5 hs
  generalize x &&& y &&& u = z2 at c4 c5
  generalize x &&& y = z1 at c3 c4
  rw [← decide_eq_true_iff (p := pop u < 2 * pop (x &&& u)), ← decide_eq_true_iff (p := pop u < 2 * pop (y &&& u))] at hs
  generalize decide (pop u < 2 * pop (x &&& u)) = m1 at c1 hs
  generalize decide (pop u < 2 * pop (y &&& u)) = m2 at c2 hs
  clear hT
  cases m1 with
  | false =>
    clear hs
    go_enter Tryd.func5, Tryd.ntmps5
    go_wp2_with fail
    refine c1.mono ?_
    rintro e w1 ⟨rfl, hw⟩
    subst hw
    go_wp2_with fail
    refine c6.mono ?_
    rintro e w1 ⟨rfl, hb⟩
    go_wp2_with fail
    go_ret
    exact ⟨rfl, hb⟩
  | true =>
    cases m2 with
    | false =>
      clear hs
      go_enter Tryd.func5, Tryd.ntmps5
      go_wp2_with fail
      refine c1.mono ?_
      rintro e w1 ⟨rfl, hw⟩
      subst hw
      go_wp2_with fail
      refine c2.mono ?_
      rintro e w1 ⟨rfl, hw⟩
      subst hw
      go_wp2_with fail
      refine c6.mono ?_
      rintro e w1 ⟨rfl, hb⟩
      go_wp2_with fail
      go_ret
      exact ⟨rfl, hb⟩
    | true =>
      have hp := hs rfl rfl
      clear hs
      go_enter Tryd.func5, Tryd.ntmps5
      go_wp2_with fail
      refine c1.mono ?_
      rintro e w1 ⟨rfl, hw⟩
      subst hw
      go_wp2_with fail
      refine c2.mono ?_
      rintro e w1 ⟨rfl, hw⟩
      subst hw
      go_wp2_with fail
      refine c3.mono ?_
      rintro e w1 ⟨rfl, hw⟩
      subst hw
      go_wp2_with fail
      refine c4.mono ?_
      rintro e w1 ⟨rfl, hw⟩
      subst hw
      go_wp2_with fail
      refine c5.mono ?_
      rintro e w1 ⟨rfl, hw⟩
      subst hw
      go_wp2_with fail
      refine c6.mono ?_
      rintro e w1 ⟨rfl, hb⟩
      go_wp2_with fail
      go_ret
      exact ⟨rfl, hb⟩

end Go.Proofs.YtbbcondoenmapadDoor.M
