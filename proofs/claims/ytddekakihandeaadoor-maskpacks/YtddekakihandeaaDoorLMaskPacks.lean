/-
  Own text: the walk of the law MaskPacks.
-/
import Derived.Test.YtddekakihandeaaDoorKRp
import Derived.Test.YtddekakihandeaaDoorKCl
namespace Go.Proofs.YtddekakihandeaaDoor.M
open Go.ChangeShapes Go.WideShapes Go.ChangeAt Go.RowKit

theorem pkV_form (o : Option Nat) : ∃ (x : Nat) (e : Int), pkV o = .tuple #[.int .u64 x, .int .i64 e] := by
  cases o with
  | none => exact ⟨0, 20, rfl⟩
  | some x => exact ⟨x, 0, rfl⟩

set_option maxRecDepth 20000 in
set_option maxHeartbeats 1000000 in
theorem walk_MaskPacks (w : World) (hT : Tab w) (p : Option Addr) (n c : Nat) (fs : List Fld) (hr : RdF w p n c fs) (hok : ∀ f ∈ fs, f.ok) :
    Calls Tryd.prog 3 #[.slice p n c] w fun e w' => e = .returned (.bool true) ∧ Below w.heap.size w w' := by
  by_cases hn : 500 < n
  · have hd : (500 : Int) < (n : Int) := by omega
    have cA := awake_any w hT
    clear hr
    go_enter Tryd.func3, Tryd.ntmps3
    go_wp2_with fail
    refine cA.mono ?_
    rintro e w1 ⟨rfl, hb⟩
    go_wp2_with fail
    go_ret
    exact ⟨rfl, hb⟩
  · have hd : ¬ (500 : Int) < (n : Int) := by omega
    have hC := cloneF_any p n c fs w hr (by omega)
    obtain ⟨x, er, hxe⟩ := pkV_form (packF fs)
    have cP := fun W p' c' (h : RdF W p' n c' fs) => pack_any p' n c' fs W h hok (by omega)
    have cR := fun W (h : RdF W p n c fs) => rpack_any p n c fs W h hok (by omega)
    rw [hxe] at cP cR
    clear hxe
    go_enter Tryd.func3, Tryd.ntmps3
    go_wp2_with fail
    refine hC.mono ?_
    rintro e w1 ⟨p1, c1, rfl, h1, hb1⟩
    go_wp2_with fail
    refine (cP _ _ _ h1).mono ?_
    rintro e w2 ⟨rfl, hb2⟩
    have hbb2 := hb1.trans (hb2.mono hb1.size)
    have h12 := h1.below hb2
    go_wp2_with fail
    refine (cR _ (hr.below hbb2)).mono ?_
    rintro e w3 ⟨rfl, hb3⟩
    have hbb3 := hbb2.trans (hb3.mono hbb2.size)
    have h13 := h12.below hb3
    have cE := equalF_same p1 p n c1 c fs w3 h13 (hr.below hbb3) (by omega)
    clear h1 h12 h13 hb1 hb2 hb3 hbb2 cP cR hC
    go_wp2_with fail
    refine cE.mono ?_
    rintro e w4 ⟨rfl, hb4⟩
    have hbb4 := hbb3.trans (hb4.mono hbb3.size)
    go_wp2_with fail
    refine (awake_any _ (hT.below hbb4)).mono ?_
    rintro e w5 ⟨rfl, hb5⟩
    have hbb5 := hbb4.trans (hb5.mono hbb4.size)
    go_wp2_with fail
    go_ret
    exact ⟨rfl, hbb5⟩

end Go.Proofs.YtddekakihandeaaDoor.M
