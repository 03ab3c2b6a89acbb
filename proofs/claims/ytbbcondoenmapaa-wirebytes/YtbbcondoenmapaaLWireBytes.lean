/-
  Own text: the walk of the law WireBytes.
-/
import Derived.Test.YtbbcondoenmapaaAwake
import Derived.Test.YtbbcondoenmapaaOpen
namespace Go.Proofs.Ytbbcondoenmapaa.M
open Go.ChangeShapes Go.WideShapes Go.ChangeAt Go.RowKit

set_option maxRecDepth 20000 in
theorem walk_WireBytes (w : World) (p : Option Addr) (n c : Nat) (xs : List Int) (hr : Rd .u8 w p n c xs) (hx : ∀ x ∈ xs, (Lit.int .u8 x).wf = true) (q : Option Addr) (m d : Nat) (ls : List Int) (hl : Rd .u8 w q m d ls) (hw : ∀ x ∈ ls, (Lit.int .u8 x).wf = true) :
    Calls Try.prog 6 #[.slice p n c, .slice q m d] w fun e w' => e = .returned (.bool true) ∧ Below w.heap.size w w' := by
  have bx := by_of_wf hx
  have bl := by_of_wf hw
  clear hx hw
  by_cases h1 : 16384 < n
  · clear hr hl bx bl
    go_enter Try.func6, Try.ntmps6
    go_wp2_with fail
    refine (awake_any _).mono ?_
    rintro e w1 ⟨rfl, hb⟩
    go_wp2_with fail
    go_ret
    exact ⟨rfl, hb⟩
  · by_cases h2 : 16384 < m
    · clear hr hl bx bl
      go_enter Try.func6, Try.ntmps6
      go_wp2_with fail
      refine (awake_any _).mono ?_
      rintro e w1 ⟨rfl, hb⟩
      go_wp2_with fail
      go_ret
      exact ⟨rfl, hb⟩
    · have bxl := By.app bx (By.app (putL_by m) bl)
      have hpl := putL_len (m := m) (by omega)
      go_enter Try.func6, Try.ntmps6
      go_wp2_with fail
      refine (putBytes_any p n c xs q m d ls _ hr hl (by omega) (by omega)).mono ?_
      rintro e w1 ⟨p1, c1, rfl, ho1, hb1⟩
      have hr1 := hr.below hb1
      have hl1 := hl.below hb1
      clear hr hl
      go_wp2_with fail
      refine (rbytes_any p n c xs q m d ls _ hr1 hl1 (by omega) (by omega)).mono ?_
      rintro e w2 ⟨p2, c2, rfl, ho2, hb2⟩
      have hg2 := ho1.rd.below hb2
      have hbb2 := Below.via hb1 hb2 (Nat.le_refl _)
      clear hr1 hl1 ho1 hb1 hb2
      go_wp2_with fail
      refine (equal_same _ _ _ _ _ _ _ _ hg2 ho2.rd bxl).mono ?_
      rintro e w4 ⟨rfl, hw⟩
      subst hw
      clear ho2
      go_wp2_with fail
      refine (sum_any _ _ _ _ _ hg2 bxl (by omega)).mono ?_
      rintro e w4 ⟨rfl, hw⟩
      subst hw
      go_wp2_with fail
      refine (rsum_any _ _ _ _ _ hg2 bxl (by omega)).mono ?_
      rintro e w4 ⟨rfl, hw⟩
      subst hw
      go_wp2_with fail
      refine (awake_any _).mono ?_
      rintro e w5 ⟨rfl, hb5⟩
      have hbb5 := Below.via hbb2 hb5 (Nat.le_refl _)
      go_wp2_with fail
      go_ret
      exact ⟨rfl, hbb5⟩

end Go.Proofs.Ytbbcondoenmapaa.M
