/-
  Own text: the walk of the law MaskBack.
-/
import Derived.Test.YtddekakihandeaaDoorKUn
import Derived.Test.YtddekakihandeaaDoorKRp
import Derived.Test.YtddekakihandeaaDoorKAw
namespace Go.Proofs.YtddekakihandeaaDoor.M
open Go.ChangeShapes Go.WideShapes Go.ChangeAt Go.RowKit

theorem pack_lt {fs : List Fld} {X : Nat} (h : packF fs = some X) : X < 18446744073709551616 := by
  unfold packF at h
  cases hw : wdF 0 fs with
  | none => rw [hw] at h; cases h
  | some S =>
    rw [hw] at h
    have h' : pkF 0 0 fs = some X := h
    exact Nat.lt_of_lt_of_le (pk_low fs 0 0 X S (by decide) (by decide) hw h').2 (pow_le64 (wd_le fs 0 S (by decide) hw).2)

theorem unpack_ok {fs L : List Fld} {W : Nat} (hok : ∀ f ∈ fs, f.ok) (h : unpackF W fs = some L) : ∀ g ∈ L, g.ok := by
  unfold unpackF at h
  cases hw : wdF 0 fs with
  | none => rw [hw] at h; cases h
  | some S =>
    rw [hw] at h
    by_cases hc : (decide (W / 2 ^ S = 0) && (upL W fs).all fitB) = true
    · have h' : (if (decide (W / 2 ^ S = 0) && (upL W fs).all fitB) = true then some (upL W fs) else none) = some L := h
      rw [if_pos hc] at h'
      cases h'
      exact upL_ok fs W 0 S (by decide) hw hok
    · have h' : (if (decide (W / 2 ^ S = 0) && (upL W fs).all fitB) = true then some (upL W fs) else none) = some L := h
      rw [if_neg hc] at h'
      cases h'

set_option maxRecDepth 20000 in
set_option maxHeartbeats 1000000 in
theorem walk_MaskBack (w : World) (hT : Tab w) (p : Option Addr) (n c : Nat) (fs : List Fld) (hr : RdF w p n c fs) (hok : ∀ f ∈ fs, f.ok) (a : Int) (wa : (Lit.int .u64 a).wf = true) :
    Calls Tryd.prog 5 #[.slice p n c, .int .u64 a] w fun e w' => e = .returned (.bool true) ∧ Below w.heap.size w w' := by
  have ba := u64_bounds wa
  obtain ⟨x, rfl⟩ := Int.eq_ofNat_of_zero_le ba.1
  have hx : x < 18446744073709551616 := by omega
  clear wa ba
  by_cases hn : 500 < n
  · have hd : (500 : Int) < (n : Int) := by omega
    have cA := awake_any w hT
    clear hr
    go_enter Tryd.func5, Tryd.ntmps5
    go_wp2_with fail
    refine cA.mono ?_
    rintro e w1 ⟨rfl, hb⟩
    go_wp2_with fail
    go_ret
    exact ⟨rfl, hb⟩
  · have hd : ¬ (500 : Int) < (n : Int) := by omega
    have cP := pack_any p n c fs w hr hok (by omega)
    cases hp : packF fs with
    | none =>
      rw [hp] at cP
      clear hp
      go_enter Tryd.func5, Tryd.ntmps5
      go_wp2_with fail
      refine cP.mono ?_
      rintro e w1 ⟨rfl, hb1⟩
      unfold pkV
      go_wp2_with fail
      cases hu : unpackF x fs with
      | none =>
        have cU := fun V (h : RdF V p n c fs) => unpack_any x p n c fs V hx h hok (by omega)
        rw [hu] at cU
        clear hu
        refine (cU _ (hr.below hb1)).mono ?_
        rintro e w4 ⟨rfl, hb4⟩
        have hbb4 := hb1.trans (hb4.mono hb1.size)
        go_wp2_with fail
        refine (awake_any _ (hT.below hbb4)).mono ?_
        rintro e w5 ⟨rfl, hb5⟩
        have hbb5 := hbb4.trans (hb5.mono hbb4.size)
        go_wp2_with fail
        go_ret
        exact ⟨rfl, hbb5⟩
      | some L =>
        have cU := fun V (h : RdF V p n c fs) => unpack_any x p n c fs V hx h hok (by omega)
        rw [hu] at cU
        have hL := unpack_pack hu
        have hLok := unpack_ok hok hu
        clear hu
        refine (cU _ (hr.below hb1)).mono ?_
        rintro e w4 ⟨⟨q4, c4, rfl, h4⟩, hb4⟩
        have hbb4 := hb1.trans (hb4.mono hb1.size)
        have cQ := pack_any q4 n c4 L w4 h4 hLok (by omega)
        rw [hL] at cQ
        clear hL h4 hb4 cU
        go_wp2_with fail
        refine cQ.mono ?_
        rintro e w5 ⟨rfl, hb5⟩
        have hbb5 := hbb4.trans (hb5.mono hbb4.size)
        unfold pkV
        go_wp2_with fail
        refine (awake_any _ (hT.below hbb5)).mono ?_
        rintro e w6 ⟨rfl, hb6⟩
        have hbb6 := hbb5.trans (hb6.mono hbb5.size)
        go_wp2_with fail
        go_ret
        exact ⟨rfl, hbb6⟩
    | some X =>
      rw [hp] at cP
      have hX := pack_lt hp
      have cV := fun V (h : RdF V p n c fs) => unpack_any X p n c fs V hX h hok (by omega)
      rw [pack_unpack hok hp] at cV
      clear hp
      go_enter Tryd.func5, Tryd.ntmps5
      go_wp2_with fail
      refine cP.mono ?_
      rintro e w1 ⟨rfl, hb1⟩
      unfold pkV
      go_wp2_with fail
      refine (cV _ (hr.below hb1)).mono ?_
      rintro e w2 ⟨⟨q2, c2, rfl, h2⟩, hb2⟩
      have hbb2 := hb1.trans (hb2.mono hb1.size)
      have cE := equalF_same q2 p n c2 c fs w2 h2 (hr.below hbb2) (by omega)
      clear cV cP
      go_wp2_with fail
      refine cE.mono ?_
      rintro e w3 ⟨rfl, hb3⟩
      have hbb3 := hbb2.trans (hb3.mono hbb2.size)
      clear cE h2
      go_wp2_with fail
      cases hu : unpackF x fs with
      | none =>
        have cU := fun V (h : RdF V p n c fs) => unpack_any x p n c fs V hx h hok (by omega)
        rw [hu] at cU
        clear hu
        refine (cU _ (hr.below hbb3)).mono ?_
        rintro e w4 ⟨rfl, hb4⟩
        have hbb4 := hbb3.trans (hb4.mono hbb3.size)
        go_wp2_with fail
        refine (awake_any _ (hT.below hbb4)).mono ?_
        rintro e w5 ⟨rfl, hb5⟩
        have hbb5 := hbb4.trans (hb5.mono hbb4.size)
        go_wp2_with fail
        go_ret
        exact ⟨rfl, hbb5⟩
      | some L =>
        have cU := fun V (h : RdF V p n c fs) => unpack_any x p n c fs V hx h hok (by omega)
        rw [hu] at cU
        have hL := unpack_pack hu
        have hLok := unpack_ok hok hu
        clear hu
        refine (cU _ (hr.below hbb3)).mono ?_
        rintro e w4 ⟨⟨q4, c4, rfl, h4⟩, hb4⟩
        have hbb4 := hbb3.trans (hb4.mono hbb3.size)
        have cQ := pack_any q4 n c4 L w4 h4 hLok (by omega)
        rw [hL] at cQ
        clear hL h4 hb4 cU
        go_wp2_with fail
        refine cQ.mono ?_
        rintro e w5 ⟨rfl, hb5⟩
        have hbb5 := hbb4.trans (hb5.mono hbb4.size)
        unfold pkV
        go_wp2_with fail
        refine (awake_any _ (hT.below hbb5)).mono ?_
        rintro e w6 ⟨rfl, hb6⟩
        have hbb6 := hbb5.trans (hb6.mono hbb5.size)
        go_wp2_with fail
        go_ret
        exact ⟨rfl, hbb6⟩

end Go.Proofs.YtddekakihandeaaDoor.M
