/-
  Own text: the walk of the law MaskFlip.
-/
import Derived.Test.YtbbcondoenmapaeDoorKFlip
import Derived.Test.YtbbcondoenmapaeDoorOpen
namespace Go.Proofs.YtbbcondoenmapaeDoor.M
open Go.ChangeShapes Go.WideShapes Go.ChangeAt Go.RowKit

set_option maxRecDepth 20000 in
theorem walk_MaskFlip (w : World) (hT : Tab w) (a : Int) (wa : (Lit.int .u64 a).wf = true) :
    Calls Tryd.prog 5 #[.int .u64 a] w fun e w' => e = .returned (.bool true) ∧ Below w.heap.size w w' := by
  have ba := u64_bounds wa
  obtain ⟨x, rfl⟩ := Int.eq_ofNat_of_zero_le ba.1
  have hx : x < 18446744073709551616 := by omega
  have c1 := fun W => flip_any x W hx
  have c2 := fun W => rflip_any x W hx
  have c3 : ∀ W, Calls Tryd.prog 10 #[.int .u64 (flip x)] W fun r w' => r = .returned (.int .u64 x) ∧ w' = W := by
    intro W
    have h := flip_any (flip x) W (flip_lt x)
    rw [flip_flip hx] at h
    exact h
  have c4 : ∀ W, Calls Tryd.prog 12 #[.int .u64 (flip x)] W fun r w' => r = .returned (.int .i64 (pop x)) ∧ w' = W := by
    intro W
    have h := len_any (flip x) W (flip_lt x)
    rw [flip_pop x] at h
    exact h
  have c5 := fun W => len_any x W hx
  generalize pop x = px at c4 c5
  generalize flip x = z at c1 c2 c3 c4
  go_enter Tryd.func5, Tryd.ntmps5
  go_wp2_with fail
  refine (c1 _).mono ?_
  rintro e w1 ⟨rfl, hw⟩
  subst hw
  go_wp2_with fail
  refine (c2 _).mono ?_
  rintro e w2 ⟨rfl, hb2⟩
  have hT2 := hT.below hb2
  go_wp2_with fail
  refine (c1 _).mono ?_
  rintro e w3 ⟨rfl, hw⟩
  subst hw
  go_wp2_with fail
  refine (c3 _).mono ?_
  rintro e w3 ⟨rfl, hw⟩
  subst hw
  go_wp2_with fail
  refine (c1 _).mono ?_
  rintro e w3 ⟨rfl, hw⟩
  subst hw
  go_wp2_with fail
  refine (c4 _).mono ?_
  rintro e w3 ⟨rfl, hw⟩
  subst hw
  go_wp2_with fail
  refine (c5 _).mono ?_
  rintro e w3 ⟨rfl, hw⟩
  subst hw
  go_wp2_with fail
  refine (awake_any _ hT2).mono ?_
  rintro e w5 ⟨rfl, hb5⟩
  have hb5' := hb2.trans (hb5.mono hb2.size)
  go_wp2_with fail
  go_ret
  exact ⟨rfl, hb5'⟩

end Go.Proofs.YtbbcondoenmapaeDoor.M
