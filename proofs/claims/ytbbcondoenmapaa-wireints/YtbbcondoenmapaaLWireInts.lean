/-
  Own text: the walk of the law WireInts.
-/
import Derived.Test.YtbbcondoenmapaaAwake
import Derived.Test.YtbbcondoenmapaaOpen
namespace Go.Proofs.Ytbbcondoenmapaa.M
open Go.ChangeShapes Go.WideShapes Go.ChangeAt Go.RowKit

theorem sg_of_wf {xs : List Int} (h : ∀ x ∈ xs, (Lit.int .i64 x).wf = true) : Sg xs := fun x hx => i64_bounds (h x hx)

theorem intAll_by (l : List Int) : By (intAll l) := putAll_by _

set_option maxRecDepth 20000 in
theorem walk_WireInts (w : World) (p : Option Addr) (n c : Nat) (xs : List Int) (hr : Rd .u8 w p n c xs) (hx : ∀ x ∈ xs, (Lit.int .u8 x).wf = true) (q : Option Addr) (m d : Nat) (ls : List Int) (hl : Rd .i64 w q m d ls) (hw : ∀ x ∈ ls, (Lit.int .i64 x).wf = true) (yes : Bool) :
    Calls Try.prog 5 #[.slice p n c, .slice q m d, .bool yes] w fun e w' => e = .returned (.bool true) ∧ Below w.heap.size w w' := by
  have bx := by_of_wf hx
  have bl := sg_of_wf hw
  clear hx hw
  by_cases h1 : 16384 < n
  · clear hr hl bx bl
    go_enter Try.func5, Try.ntmps5
    go_wp2_with fail
    refine (awake_any _).mono ?_
    rintro e w1 ⟨rfl, hb⟩
    go_wp2_with fail
    go_ret
    exact ⟨rfl, hb⟩
  · by_cases h2 : 500 < m
    · clear hr hl bx bl
      go_enter Try.func5, Try.ntmps5
      go_wp2_with fail
      refine (awake_any _).mono ?_
      rintro e w1 ⟨rfl, hb⟩
      go_wp2_with fail
      go_ret
      exact ⟨rfl, hb⟩
    · have bxl := By.app bx (intAll_by ls)
      have bxb := By.app bx (putAll_by [yesN yes])
      go_enter Try.func5, Try.ntmps5
      go_wp2_with fail
      refine (putInts_any p n c xs q m d ls _ hr hl bl (by omega) (by omega)).mono ?_
      rintro e w1 ⟨p1, c1, rfl, ho1, hb1⟩
      have hr1 := hr.below hb1
      have hl1 := hl.below hb1
      clear hr hl
      go_wp2_with fail
      refine (rints_any p n c xs q m d ls _ hr1 hl1 bl (by omega) (by omega)).mono ?_
      rintro e w2 ⟨p2, c2, rfl, ho2, hb2⟩
      have hr2 := hr1.below hb2
      have hg2 := ho1.rd.below hb2
      have hbb2 := Below.via hb1 hb2 (Nat.le_refl _)
      clear hr1 hl1 ho1 hb1 hb2
      go_wp2_with fail
      refine (equal_same _ _ _ _ _ _ _ _ hg2 ho2.rd bxl).mono ?_
      rintro e w4 ⟨rfl, hw⟩
      subst hw
      clear hg2 ho2
      go_wp2_with fail
      refine (putBool_any p n c xs yes _ hr2 (by omega)).mono ?_
      rintro e w3 ⟨p3, c3, rfl, ho3, hb3⟩
      have hr3 := hr2.below hb3
      have hbb3 := Below.via hbb2 hb3 (Nat.le_refl _)
      clear hr2 hb3 hbb2
      go_wp2_with fail
      refine (rbool_any p n c xs yes _ hr3 (by omega)).mono ?_
      rintro e w4 ⟨p4, c4, rfl, ho4, hb4⟩
      have hg4 := ho3.rd.below hb4
      have hbb4 := Below.via hbb3 hb4 (Nat.le_refl _)
      clear hr3 hb4 hbb3 ho3
      go_wp2_with fail
      refine (equal_same _ _ _ _ _ _ _ _ hg4 ho4.rd bxb).mono ?_
      rintro e w5 ⟨rfl, hw⟩
      subst hw
      clear hg4 ho4
      go_wp2_with fail
      refine (awake_any _).mono ?_
      rintro e w5 ⟨rfl, hb5⟩
      have hbb5 := Below.via hbb4 hb5 (Nat.le_refl _)
      go_wp2_with fail
      go_ret
      exact ⟨rfl, hbb5⟩

end Go.Proofs.Ytbbcondoenmapaa.M
