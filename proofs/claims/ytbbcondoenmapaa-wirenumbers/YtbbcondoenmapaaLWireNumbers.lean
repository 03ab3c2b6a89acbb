/-
  Own text: the walk of the law WireNumbers.
-/
import Derived.Test.YtbbcondoenmapaaAwake
import Derived.Test.YtbbcondoenmapaaOpen
namespace Go.Proofs.Ytbbcondoenmapaa.M
open Go.ChangeShapes Go.WideShapes Go.ChangeAt Go.RowKit

set_option maxRecDepth 20000 in
theorem walk_WireNumbers (w : World) (p : Option Addr) (n c : Nat) (xs : List Int) (hr : Rd .u8 w p n c xs) (hx : ∀ x ∈ xs, (Lit.int .u8 x).wf = true) (q : Option Addr) (m d : Nat) (ls : List Int) (hl : Rd .u64 w q m d ls) (hw : ∀ x ∈ ls, (Lit.int .u64 x).wf = true) :
    Calls Try.prog 3 #[.slice p n c, .slice q m d] w fun e w' => e = .returned (.bool true) ∧ Below w.heap.size w w' := by
  have bx := by_of_wf hx
  have bl := wd_of_wf hw
  clear hx hw
  by_cases h1 : 16384 < n
  · clear hr hl bx bl
    go_enter Try.func3, Try.ntmps3
    go_wp2_with fail
    refine (awake_any _).mono ?_
    rintro e w1 ⟨rfl, hb⟩
    go_wp2_with fail
    go_ret
    exact ⟨rfl, hb⟩
  · by_cases h2 : 500 < m
    · clear hr hl bx bl
      go_enter Try.func3, Try.ntmps3
      go_wp2_with fail
      refine (awake_any _).mono ?_
      rintro e w1 ⟨rfl, hb⟩
      go_wp2_with fail
      go_ret
      exact ⟨rfl, hb⟩
    · have bxl := By.app bx (putAll_by ls)
      go_enter Try.func3, Try.ntmps3
      go_wp2_with fail
      refine (clone_any p n c xs _ hr (by omega)).mono ?_
      rintro e w1 ⟨p1, c1, rfl, ho1, hb1⟩
      have hr1 := hr.below hb1
      have hl1 := hl.below hb1
      clear hr hl
      go_wp2_with fail
      refine (put_any p1 n c1 xs q m d ls _ ho1.rd hl1 bl (by omega) (by omega)).mono ?_
      rintro e w2 ⟨p2, c2, rfl, ho2, hb2⟩
      have hr2 := hr1.below hb2
      have hl2 := hl1.below hb2
      have hg2 := ho1.rd.below hb2
      have hbb2 := Below.via hb1 hb2 (Nat.le_refl _)
      clear hr1 hl1 ho1 hb1 hb2
      go_wp2_with fail
      refine (rput_any p n c xs q m d ls _ hr2 hl2 bl (by omega) (by omega)).mono ?_
      rintro e w3 ⟨p3, c3, rfl, ho3, hb3⟩
      have hr3 := hr2.below hb3
      have hg3 := hg2.below hb3
      have hp3 := ho2.rd.below hb3
      have hbb3 := Below.via hbb2 hb3 (Nat.le_refl _)
      clear hr2 hl2 hg2 ho2 hb3 hbb2
      go_wp2_with fail
      refine (equal_same _ _ _ _ _ _ _ _ hp3 ho3.rd bxl).mono ?_
      rintro e w4 ⟨rfl, hw⟩
      subst hw
      go_wp2_with fail
      refine (equal_same _ _ _ _ _ _ _ _ hg3 hr3 bx).mono ?_
      rintro e w4 ⟨rfl, hw⟩
      subst hw
      go_wp2_with fail
      refine (awake_any _).mono ?_
      rintro e w5 ⟨rfl, hb5⟩
      have hbb5 := Below.via hbb3 hb5 (Nat.le_refl _)
      go_wp2_with fail
      go_ret
      exact ⟨rfl, hbb5⟩

end Go.Proofs.Ytbbcondoenmapaa.M
