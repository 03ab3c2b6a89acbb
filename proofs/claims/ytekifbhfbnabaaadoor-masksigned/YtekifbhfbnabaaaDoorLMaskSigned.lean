/-
  Own text: the walk of the law MaskSigned.
-/
import Derived.Test.YtekifbhfbnabaaaDoorKSgn
import Derived.Test.YtekifbhfbnabaaaDoorOpen
namespace Go.Proofs.YtekifbhfbnabaaaDoor.M
open Go.ChangeShapes Go.WideShapes Go.ChangeAt Go.RowKit

set_option maxRecDepth 20000 in
theorem walk_MaskSigned (w : World) (hT : Tab w) (x : Int) (hx : (Lit.int .u64 x).wf = true) (b : Int) (_hb : (Lit.int .i64 b).wf = true) :
    Calls Tryd.prog 3 #[.int .u64 x, .int .i64 b] w fun e w' => e = .returned (.bool true) ∧ Below w.heap.size w w' := by
  obtain ⟨x1, x2⟩ := u64_bounds hx
  obtain ⟨x, rfl⟩ := Int.eq_ofNat_of_zero_le x1
  clear hx
  by_cases h : 1 ≤ b ∧ b ≤ 64
  · obtain ⟨b, rfl⟩ := Int.eq_ofNat_of_zero_le (show 0 ≤ b by omega)
    have c1 := signed_any x b w (by omega) (by omega)
    have c2 := rsigned_any x b w (by omega) (by omega) (by omega)
    generalize sgn x b = z at c1 c2
    go_enter Tryd.func3, Tryd.ntmps3
    go_wp2_with fail
    refine c1.mono ?_
    rintro e w1 ⟨rfl, hw⟩
    subst hw
    go_wp2_with fail
    refine c2.mono ?_
    rintro e w2 ⟨rfl, hb2⟩
    have hT2 := hT.below hb2
    go_wp2_with fail
    refine (awake_any _ hT2).mono ?_
    rintro e w3 ⟨rfl, hb3⟩
    have hb4 := hb2.trans (hb3.mono hb2.size)
    go_wp2_with fail
    go_ret
    exact ⟨rfl, hb4⟩
  · have c1 := signed_none x b w (by omega)
    have c2 := rsigned_none x b w (by omega)
    go_enter Tryd.func3, Tryd.ntmps3
    go_wp2_with fail
    refine c1.mono ?_
    rintro e w1 ⟨rfl, hw⟩
    subst hw
    go_wp2_with fail
    refine c2.mono ?_
    rintro e w2 ⟨rfl, hw⟩
    subst hw
    go_wp2_with fail
    refine (awake_any _ hT).mono ?_
    rintro e w3 ⟨rfl, hb3⟩
    go_wp2_with fail
    go_ret
    exact ⟨rfl, hb3⟩

end Go.Proofs.YtekifbhfbnabaaaDoor.M
