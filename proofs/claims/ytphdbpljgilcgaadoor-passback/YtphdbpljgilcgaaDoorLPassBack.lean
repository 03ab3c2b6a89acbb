/-
  Own text: the walk of the law PassBack.
-/
import Derived.Test.YtphdbpljgilcgaaDoorSAwake
namespace Go.Proofs.YtphdbpljgilcgaaDoor.M
open Go.ChangeShapes Go.WideShapes Go.ChangeAt Go.RowKit Go.Proofs
set_option linter.unusedSimpArgs false

set_option maxRecDepth 20000 in
set_option maxHeartbeats 1000000 in
theorem right_all (p : Option Addr) (n c : Nat) (L : List Sn) (w : World) (hr : RdM w p n c L) (hf : Fit L) (hT : Tabs w) :
    Calls Tryd.prog 6 #[.slice p n c] w fun e w' => e = .returned (.int .i64 (rightL L)) ∧ Below w.heap.size w w' := by
  by_cases hn : n ≤ 1099511627776
  · exact right_any p n c L w hr hf hn hT
  · have hl := hr.len
    have HR : Hid (rightL L = 7) := by unfold Hid rightL; rw [if_pos (by omega)]
    have h6i : (6 : Int) < (n : Int) := by omega
    clear hr hl
    go_enter Tryd.func6, Tryd.ntmps6
    go_wp2_with fail
    go_ret
    exact ⟨ret_int HR.out.symm, Below.refl _ _⟩

theorem key_rd (K : List Int) (hK : K.length = 16) (t : TypeId) (w : World) : Rd .u8 (w.alloc (.cells (nums .u8 K) t)) (some ⟨w.heap.size, 0, none⟩) 16 16 K := by
  refine ⟨hK, Nat.le_refl _, (fun h => by cases h), fun _ => ⟨w.heap.size, 0, rfl, fun i hi => ?_⟩⟩
  have h := (ArrI.new t .u8 w K).cell (i := i) (by omega)
  rw [Nat.zero_add]
  exact h

set_option maxRecDepth 20000 in
set_option maxHeartbeats 4000000 in
theorem walk_PassBack (w : World) (hT : Tabs w) (K : List Int) (hK : K.length = 16) (bK : By K) (p : Option Addr) (n c : Nat) (L : List Sn) (hr : RdM w p n c L) (hf : Fit L) :
    Calls Tryd.prog 3 #[.agg (nums .u8 K), .slice p n c] w fun r w' => r = .returned (.bool true) ∧ Below w.heap.size w w' := by
  have hb0 := below_alloc w (.cells (nums .u8 K) 22)
  have hr0 := hr.below hb0
  have hT0 := hT.up hb0
  have hk0 := key_rd K hK 22 w
  have cR := right_all p n c L _ hr0 hf hT0
  have hl := hr.len
  clear hr
  by_cases hz : rightL L = 0
  · have hM := (right_iff L).1 hz
    have h6 := hM.1
    have hP := passL_len K L hM hf
    have hP0 := pass_zero K L
    have cM := fun W (h1 : Rd .u8 W (some ⟨w.heap.size, 0, none⟩) 16 16 K) (h2 : RdM W p n c L) (h3 : Tabs W) => make_any _ 16 K p n c L W h1 bK h2 hf hz h3
    have cD := fun (q : Option Addr) (d : Nat) W (h1 : Rd .u8 W (some ⟨w.heap.size, 0, none⟩) 16 16 K) (h2 : Rd .u8 W q (passL K L).length d (passL K L)) (h3 : Tabs W) => read_pass _ 16 K q _ d _ L W h1 bK h2 (passL_by K L) (by omega) hz hf h3 (pass_claims K L)
    have cE := fun (q : Option Addr) (d : Nat) W (h1 : RdM W q n d L) (h2 : RdM W p n c L) => equalM_any q p n n d c L L W h1 h2 hf hf (by omega) (by omega)
    have cA := fun W (h : Tabs W) => awake_any W h
    rw [hz] at cR
    rw [eqSns_self] at cE
    have cD2 : ∀ (q : Option Addr) (d : Nat) W, Rd .u8 W (some ⟨w.heap.size, 0, none⟩) 16 16 K → Rd .u8 W q (passL K L).length d (passL K L) → Tabs W → Calls Tryd.prog 9 #[.slice (some ⟨w.heap.size, 0, none⟩) 16 16, .slice q (passL K L).length d] W fun e w' => ∃ q' d', e = .returned (.tuple #[.slice q' n d', .int .i64 0]) ∧ RdM w' q' n d' L ∧ Below W.heap.size W w' := fun q d W h1 h2 h3 => by
      have h := cD q d W h1 h2 h3
      rw [if_pos rfl, if_pos rfl, hl] at h
      exact h
    rw [hl] at hP0
    clear cD hz hM hl
    generalize passL K L = P at *
    obtain ⟨pl, hpl⟩ : ∃ x, P.length = x := ⟨_, rfl⟩
    rw [hpl] at cM cD2 hP hP0
    have hle : (pl : Int) ≤ 120 := by omega
    have hq : ((pl : Int) == 0) = ((n : Int) == 0) := by
      by_cases h0 : n = 0
      · have : pl = 0 := by omega
        rw [h0, this]
      · have h1 : ¬ pl = 0 := by omega
        rw [beq_eq_false_iff_ne.2 (show (pl : Int) ≠ 0 by omega), beq_eq_false_iff_ne.2 (show (n : Int) ≠ 0 by omega)]
    clear hP0 hpl
    clear hK h6
    go_enter Tryd.func3, Tryd.ntmps3
    go_wp2_with fail
    generalize (w.alloc (.cells (nums .u8 K) 22)) = w0 at *
    refine cR.mono ?_
    rintro e w1 ⟨rfl, hb1⟩
    have hr1 := hr0.below hb1
    have hk1 := hk0.below hb1
    have hT1 := hT0.up hb1
    have hbb1 := hb0.trans (hb1.mono hb0.size)
    clear cR hr0 hk0 hT0 hb0 hb1
    go_wp2_with fail
    refine (cM _ hk1 hr1 hT1).mono ?_
    rintro e w2 ⟨q2, d2, rfl, hp2, hb2⟩
    have hr2 := hr1.below hb2
    have hk2 := hk1.below hb2
    have hT2 := hT1.up hb2
    have hbb2 := hbb1.trans (hb2.mono hbb1.size)
    clear cM hr1 hk1 hT1 hbb1 hb2
    go_wp2_with fail
    refine (cD2 _ _ _ hk2 hp2 hT2).mono ?_
    rintro e w3 ⟨q3, d3, rfl, hx3, hb3⟩
    have hr3 := hr2.below hb3
    have hT3 := hT2.up hb3
    have hbb3 := hbb2.trans (hb3.mono hbb2.size)
    clear cD2 hr2 hk2 hT2 hbb2 hb3 hp2
    go_wp2_with fail
    refine (cE _ _ _ hx3 hr3).mono ?_
    rintro e w4 ⟨rfl, hb4⟩
    have hT4 := hT3.up hb4
    have hbb4 := hbb3.trans (hb4.mono hbb3.size)
    clear cE hx3 hr3 hT3 hbb3 hb4
    go_wp2_with fail
    refine (cA _ hT4).mono ?_
    rintro e w5 ⟨rfl, hb5⟩
    clear cA
    go_wp2_with fail
    go_ret
    exact ⟨rfl, hbb4.trans (hb5.mono hbb4.size)⟩
  · have hzz : (rightL L != 0) = true := by simp [hz]
    have cA := fun W (h : Tabs W) => awake_any W h
    clear hz hl hr0 hk0
    generalize rightL L = z at *
    go_enter Tryd.func3, Tryd.ntmps3
    go_wp2_with fail
    refine cR.mono ?_
    rintro e w1 ⟨rfl, hb1⟩
    have hT1 := hT0.up hb1
    have hbb1 := hb0.trans (hb1.mono hb0.size)
    clear cR hT0 hb0 hb1
    go_wp2_with fail
    refine (cA _ hT1).mono ?_
    rintro e w2 ⟨rfl, hb2⟩
    clear cA
    go_wp2_with fail
    go_ret
    exact ⟨rfl, hbb1.trans (hb2.mono hbb1.size)⟩

end Go.Proofs.YtphdbpljgilcgaaDoor.M
