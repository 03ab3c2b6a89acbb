/-
  Own text: the walk of the law WireSeals.
-/
import Derived.Test.YtbbcondoenmapaaAwake
import Derived.Test.YtbbcondoenmapaaOpen
namespace Go.Proofs.Ytbbcondoenmapaa.M
open Go.ChangeShapes Go.WideShapes Go.ChangeAt Go.RowKit

set_option maxRecDepth 20000 in
theorem walk_WireSeals (w : World) (p : Option Addr) (n c : Nat) (xs : List Int) (hr : Rd .u8 w p n c xs) (hx : ∀ x ∈ xs, (Lit.int .u8 x).wf = true) :
    Calls Try.prog 8 #[.slice p n c] w fun e w' => e = .returned (.bool true) ∧ Below w.heap.size w w' := by
  have bx := by_of_wf hx
  clear hx
  by_cases h1 : 32768 < n
  · clear hr bx
    go_enter Try.func8, Try.ntmps8
    go_wp2_with fail
    refine (awake_any _).mono ?_
    rintro e w1 ⟨rfl, hb⟩
    go_wp2_with fail
    go_ret
    exact ⟨rfl, hb⟩
  · by_cases h2 : 8192 < n
    · clear hr bx
      go_enter Try.func8, Try.ntmps8
      go_wp2_with fail
      refine (seal_long p n c _ h2).mono ?_
      rintro e w4 ⟨rfl, hw⟩
      subst hw
      go_wp2_with fail
      refine (rseal_long p n c _ h2).mono ?_
      rintro e w4 ⟨rfl, hw⟩
      subst hw
      go_wp2_with fail
      refine (equal_same none none 0 0 0 0 [] _ (Rd.empty _ _ _ _ (fun _ => rfl)) (Rd.empty _ _ _ _ (fun _ => rfl)) By.nil).mono ?_
      rintro e w4 ⟨rfl, hw⟩
      subst hw
      go_wp2_with fail
      refine (awake_any _).mono ?_
      rintro e w1 ⟨rfl, hb⟩
      go_wp2_with fail
      go_ret
      exact ⟨rfl, hb⟩
    · have bxl := sealL_by bx
      go_enter Try.func8, Try.ntmps8
      go_wp2_with fail
      refine (seal_any p n c xs _ hr bx (by omega)).mono ?_
      rintro e w1 ⟨p1, n1, c1, rfl, ho1, hb1⟩
      have hr1 := hr.below hb1
      clear hr
      go_wp2_with fail
      refine (rseal_any p n c xs _ hr1 bx (by omega)).mono ?_
      rintro e w2 ⟨p2, n2, c2, rfl, ho2, hb2⟩
      have hg2 := ho1.rd.below hb2
      have hbb2 := Below.via hb1 hb2 (Nat.le_refl _)
      clear hr1 ho1 hb1 hb2
      go_wp2_with fail
      refine (equal_same _ _ _ _ _ _ _ _ hg2 ho2.rd bxl).mono ?_
      rintro e w4 ⟨rfl, hw⟩
      subst hw
      clear ho2 hg2
      go_wp2_with fail
      refine (awake_any _).mono ?_
      rintro e w5 ⟨rfl, hb5⟩
      have hbb5 := Below.via hbb2 hb5 (Nat.le_refl _)
      go_wp2_with fail
      go_ret
      exact ⟨rfl, hbb5⟩

end Go.Proofs.Ytbbcondoenmapaa.M
