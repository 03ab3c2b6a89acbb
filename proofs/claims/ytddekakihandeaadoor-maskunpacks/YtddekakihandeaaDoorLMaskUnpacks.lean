/-
  Own text: the walk of the law MaskUnpacks.
-/
import Derived.Test.YtddekakihandeaaDoorKRun
import Derived.Test.YtddekakihandeaaDoorKAw
namespace Go.Proofs.YtddekakihandeaaDoor.M
open Go.ChangeShapes Go.WideShapes Go.ChangeAt Go.RowKit

set_option maxRecDepth 20000 in
set_option maxHeartbeats 1000000 in
theorem walk_MaskUnpacks (w : World) (hT : Tab w) (a : Int) (wa : (Lit.int .u64 a).wf = true) (p : Option Addr) (n c : Nat) (fs : List Fld) (hr : RdF w p n c fs) (hok : ∀ f ∈ fs, f.ok) :
    Calls Tryd.prog 4 #[.int .u64 a, .slice p n c] w fun e w' => e = .returned (.bool true) ∧ Below w.heap.size w w' := by
  have ba := u64_bounds wa
  obtain ⟨x, rfl⟩ := Int.eq_ofNat_of_zero_le ba.1
  have hx : x < 18446744073709551616 := by omega
  clear wa ba
  by_cases hn : 500 < n
  · have hd : (500 : Int) < (n : Int) := by omega
    have cA := awake_any w hT
    clear hr
    go_enter Tryd.func4, Tryd.ntmps4
    go_wp2_with fail
    refine cA.mono ?_
    rintro e w1 ⟨rfl, hb⟩
    go_wp2_with fail
    go_ret
    exact ⟨rfl, hb⟩
  · have hd : ¬ (500 : Int) < (n : Int) := by omega
    have hC := cloneF_any p n c fs w hr (by omega)
    have cU := fun V p' c' (h : RdF V p' n c' fs) => unpack_any x p' n c' fs V hx h hok (by omega)
    have cR := fun V (h : RdF V p n c fs) => runpack_any x p n c fs V hx h hok (by omega)
    cases hu : unpackF x fs with
    | none =>
      rw [hu] at cU cR
      have cN := fun V => equalF_same none none 0 0 0 [] V ⟨rfl, Nat.le_refl _, fun _ => rfl, fun h => absurd h (Nat.lt_irrefl _)⟩ ⟨rfl, Nat.le_refl _, fun _ => rfl, fun h => absurd h (Nat.lt_irrefl _)⟩ (by decide)
      clear hu
      go_enter Tryd.func4, Tryd.ntmps4
      go_wp2_with fail
      refine hC.mono ?_
      rintro e w1 ⟨p1, c1, rfl, h1, hb1⟩
      go_wp2_with fail
      refine (cU _ _ _ h1).mono ?_
      rintro e w2 ⟨rfl, hb2⟩
      have hbb2 := hb1.trans (hb2.mono hb1.size)
      have h12 := h1.below hb2
      go_wp2_with fail
      refine (cR _ (hr.below hbb2)).mono ?_
      rintro e w3 ⟨rfl, hb3⟩
      have hbb3 := hbb2.trans (hb3.mono hbb2.size)
      have h13 := h12.below hb3
      clear h1 h12 hb1 hb2 hb3 hbb2 cU cR hC
      go_wp2_with fail
      refine (cN _).mono ?_
      rintro e w4 ⟨rfl, hb4⟩
      have hbb4 := hbb3.trans (hb4.mono hbb3.size)
      have cE := equalF_same p1 p n c1 c fs w4 (h13.below hb4) (hr.below hbb4) (by omega)
      clear h13 hb4 hbb3 cN
      go_wp2_with fail
      refine cE.mono ?_
      rintro e w5 ⟨rfl, hb5⟩
      have hbb5 := hbb4.trans (hb5.mono hbb4.size)
      go_wp2_with fail
      refine (awake_any _ (hT.below hbb5)).mono ?_
      rintro e w6 ⟨rfl, hb6⟩
      have hbb6 := hbb5.trans (hb6.mono hbb5.size)
      go_wp2_with fail
      go_ret
      exact ⟨rfl, hbb6⟩
    | some L =>
      rw [hu] at cU cR
      clear hu
      go_enter Tryd.func4, Tryd.ntmps4
      go_wp2_with fail
      refine hC.mono ?_
      rintro e w1 ⟨p1, c1, rfl, h1, hb1⟩
      go_wp2_with fail
      refine (cU _ _ _ h1).mono ?_
      rintro e w2 ⟨⟨q2, d2, rfl, r2⟩, hb2⟩
      have hbb2 := hb1.trans (hb2.mono hb1.size)
      have h12 := h1.below hb2
      go_wp2_with fail
      refine (cR _ (hr.below hbb2)).mono ?_
      rintro e w3 ⟨⟨q3, d3, rfl, r3⟩, hb3⟩
      have hbb3 := hbb2.trans (hb3.mono hbb2.size)
      have h13 := h12.below hb3
      have cN := equalF_same q2 q3 n d2 d3 L w3 (r2.below hb3) r3 (by omega)
      clear h1 h12 hb1 hb2 hb3 hbb2 cU cR hC r2 r3
      go_wp2_with fail
      refine cN.mono ?_
      rintro e w4 ⟨rfl, hb4⟩
      have hbb4 := hbb3.trans (hb4.mono hbb3.size)
      have cE := equalF_same p1 p n c1 c fs w4 (h13.below hb4) (hr.below hbb4) (by omega)
      clear h13 hb4 hbb3 cN
      go_wp2_with fail
      refine cE.mono ?_
      rintro e w5 ⟨rfl, hb5⟩
      have hbb5 := hbb4.trans (hb5.mono hbb4.size)
      go_wp2_with fail
      refine (awake_any _ (hT.below hbb5)).mono ?_
      rintro e w6 ⟨rfl, hb6⟩
      have hbb6 := hbb5.trans (hb6.mono hbb5.size)
      go_wp2_with fail
      go_ret
      exact ⟨rfl, hbb6⟩

end Go.Proofs.YtddekakihandeaaDoor.M
