/-
  Own text: the walk of the statement 'PlanEnds'.
-/
import Derived.Test.YtigojnpjpagfjaaDoorVAwake
namespace Go.Proofs.YtigojnpjpagfjaaDoor.M
open Go.ChangeShapes Go.WideShapes Go.ChangeAt Go.RowKit

theorem Steps.last {al : Nat} {hs vs : List Int} {l : List Cm} : ∀ {e : Int} {ms : List Mb} {e2 : Int} {ms2 : List Mb}, Steps al hs vs e ms l e2 ms2 → nextR al hs vs e2 ms2 = none := by
  induction l with
  | nil =>
    intro e ms e2 ms2 h
    have a := Steps.out0 h
    rw [a.2.1, a.2.2]
    exact a.1
  | cons x l ih =>
    intro e ms e2 ms2 h
    have ⟨_, _, _, t⟩ := Steps.out1 h
    exact ih t

set_option maxRecDepth 20000 in
set_option maxHeartbeats 4000000 in
theorem walk_PlanEnds (w : World) (ht : Tab w) (e : Int) (p : Option Addr) (n c : Nat) (ms : List Mb) (hr : RdM w p n c ms) (al : Nat) (hal : al < 18446744073709551616) (h0 h1 h2 h3 h4 h5 v0 v1 v2 : Int) (hv : (v0 ≤ 9223372036854775807 ∧ v1 ≤ 9223372036854775807) ∧ v2 ≤ 9223372036854775807) :
    Calls Tryd.prog 6 #[.agg #[.int .i64 e, .slice p n c], .int .u64 (al : Int), .agg #[.int .i64 h0, .int .i64 h1, .int .i64 h2, .int .i64 h3, .int .i64 h4, .int .i64 h5], .agg #[.int .i64 v0, .int .i64 v1, .int .i64 v2]] w fun r w' => r = .returned (.bool true) ∧ Below w.heap.size w w' := by
  have hb0 : Below w.heap.size w (((w.alloc (.cells #[.int .i64 e, .slice p n c] 28)).alloc (.cells #[.int .i64 h0, .int .i64 h1, .int .i64 h2, .int .i64 h3, .int .i64 h4, .int .i64 h5] 23)).alloc (.cells #[.int .i64 v0, .int .i64 v1, .int .i64 v2] 25)) := (((Below.refl _ _).alloc (Nat.le_refl _) _).alloc (by simp) _).alloc (by simp; omega) _
  have hX : At 28 (((w.alloc (.cells #[.int .i64 e, .slice p n c] 28)).alloc (.cells #[.int .i64 h0, .int .i64 h1, .int .i64 h2, .int .i64 h3, .int .i64 h4, .int .i64 h5] 23)).alloc (.cells #[.int .i64 v0, .int .i64 v1, .int .i64 v2] 25)) w.heap.size #[.int .i64 e, .slice p n c] := ((At.new 28 w _).alloc _).alloc _
  have hH : At 23 (((w.alloc (.cells #[.int .i64 e, .slice p n c] 28)).alloc (.cells #[.int .i64 h0, .int .i64 h1, .int .i64 h2, .int .i64 h3, .int .i64 h4, .int .i64 h5] 23)).alloc (.cells #[.int .i64 v0, .int .i64 v1, .int .i64 v2] 25)) (w.heap.size + 1) #[.int .i64 h0, .int .i64 h1, .int .i64 h2, .int .i64 h3, .int .i64 h4, .int .i64 h5] := At.moved (by simp) ((At.new 23 _ _).alloc _)
  have hV : At 25 (((w.alloc (.cells #[.int .i64 e, .slice p n c] 28)).alloc (.cells #[.int .i64 h0, .int .i64 h1, .int .i64 h2, .int .i64 h3, .int .i64 h4, .int .i64 h5] 23)).alloc (.cells #[.int .i64 v0, .int .i64 v1, .int .i64 v2] 25)) (w.heap.size + 2) #[.int .i64 v0, .int .i64 v1, .int .i64 v2] := At.moved (by simp) (At.new 25 _ _)
  have hr0 := hr.below hb0
  have ht0 := ht.below hb0
  have hA := fun W hx => awake_any W hx
  generalize hw : w.heap.size = b at *
  obtain ⟨x0, x1⟩ := hX.two
  obtain ⟨m0, m1, m2, m3, m4, m5⟩ := hH.six
  obtain ⟨n0, n1, n2⟩ := hV.three
  by_cases hn60 : 60 < n
  · have hni : (60 : Int) < (n : Int) := by omega
    clear hr hr0
    go_enter Tryd.func6, Tryd.ntmps6
    go_wp2_with fail
    refine (hA _ ht0).mono ?_
    rintro r w1 ⟨rfl, hb1⟩
    go_wp2_with fail
    go_ret
    exact ⟨rfl, hb0.trans (hb1.mono (by have := hb0.size; omega))⟩
  have hni : ¬ (60 : Int) < (n : Int) := by omega
  have hn : n ≤ 5864062014805 := by omega
  cases hk : chk e ms with
  | false =>
    have hG := All_no e p n c ms al h0 h1 h2 h3 h4 h5 v0 v1 v2 _ hr0 hn hk
    clear hr hr0
    go_enter Tryd.func6, Tryd.ntmps6
    go_wp2_with fail
    refine hG.mono ?_
    rintro r w1 ⟨rfl, hb1⟩
    have hB1 := hb0.trans (hb1.mono (by have := hb0.size; omega))
    have hba := below_alloc w1 (.cells #[.int .i64 0, .slice none 0 0] 28)
    have hB2 := hB1.trans (hba.mono (by have := hB1.size; omega))
    have ht2 := (ht0.below hb1).below hba
    clear hG hb0 hb1 hba hB1 ht0
    go_wp2_with fail
    refine (hA _ ht2).mono ?_
    rintro r w2 ⟨rfl, hb2⟩
    go_wp2_with fail
    go_ret
    exact ⟨rfl, hB2.trans (hb2.mono (by have := hB2.size; omega))⟩
  | true =>
  cases hpc : planC [h0, h1, h2, h3, h4, h5] [v0, v1, v2] with
  | false =>
    have hG := All_bad e p n c ms al h0 h1 h2 h3 h4 h5 v0 v1 v2 _ hr0 hn hk hpc
    clear hr hr0
    go_enter Tryd.func6, Tryd.ntmps6
    go_wp2_with fail
    refine hG.mono ?_
    rintro r w1 ⟨rfl, hb1⟩
    have hB1 := hb0.trans (hb1.mono (by have := hb0.size; omega))
    have hba := below_alloc w1 (.cells #[.int .i64 0, .slice none 0 0] 28)
    have hB2 := hB1.trans (hba.mono (by have := hB1.size; omega))
    have ht2 := (ht0.below hb1).below hba
    clear hG hb0 hb1 hba hB1 ht0
    go_wp2_with fail
    refine (hA _ ht2).mono ?_
    rintro r w2 ⟨rfl, hb2⟩
    go_wp2_with fail
    go_ret
    exact ⟨rfl, hB2.trans (hb2.mono (by have := hB2.size; omega))⟩
  | true =>
    have hG := All_ok e p n c ms al h0 h1 h2 h3 h4 h5 v0 v1 v2 hv _ hal hr0 hn ht0 hk hpc
    have hNx := fun e2 q n2 c2 ms2 W hx hn2 hy => pNext_any e2 q n2 c2 ms2 al h0 h1 h2 h3 h4 h5 v0 v1 v2 hv W hal hx hn2 hy
    clear hr hr0
    go_enter Tryd.func6, Tryd.ntmps6
    go_wp2_with fail
    refine hG.mono ?_
    rintro r w1 ⟨L, e2, ms2, q1, c1, q2, c2, rfl, hst, ⟨hL1, hL2⟩, hk2, hR1, hR2, _, hb1⟩
    have hV2 : pnV al [h0, h1, h2, h3, h4, h5] [v0, v1, v2] e2 ms2 = .tuple #[.agg #[.int .i64 0, .int .i64 0, .int .i64 0, .int .i64 0], .bool false, .int .i64 0] := by unfold pnV; rw [hk2, hpc, hst.last]; rfl
    have hB1 := hb0.trans (hb1.mono (by have := hb0.size; omega))
    have hba := below_alloc w1 (.cells #[.int .i64 e2, .slice q2 ms2.length c2] 28)
    have hB2 := hB1.trans (hba.mono (by have := hB1.size; omega))
    have ht2 := (ht0.below hb1).below hba
    have hR3 := hR2.below hba
    have hn2 : ms2.length ≤ 5864062014805 := by have := (chk_parts hk2).2.2.2; omega
    have hN1 := hNx e2 q2 ms2.length c2 ms2 _ hR3 hn2 ht2
    rw [hV2] at hN1
    have hCk := fun W hx => Check_any e2 q2 ms2.length c2 ms2 W hx hn2
    rw [hk2] at hCk
    unfold chkV at hCk
    simp only [if_true] at hCk
    have hZ := At.new 28 w1 #[.int .i64 e2, .slice q2 ms2.length c2]
    obtain ⟨z0, z1⟩ := hZ.two
    obtain ⟨m0, m1, m2, m3, m4, m5⟩ := ((hH.below hb1).below hba).six
    obtain ⟨n0, n1, n2⟩ := ((hV.below hb1).below hba).three
    have hLn : (L.length : Int) ≤ 12 := by omega
    generalize L.length = ln at *
    generalize ms2.length = mn at *
    clear hG hb0 hb1 hba hB1 ht0 hNx hst hk2 hR1 hR2 hV2 hk hpc hX hH hV
    go_wp2_with fail
    refine hN1.mono ?_
    rintro r w3 ⟨rfl, hb3⟩
    have hba := below_alloc w3 (.cells #[.int .i64 0, .int .i64 0, .int .i64 0, .int .i64 0] 37)
    have hB3 := hB2.trans (hb3.mono (by have := hB2.size; omega))
    have hB4 := hB3.trans (hba.mono (by have := hB3.size; omega))
    have hR4 := (hR3.below hb3).below hba
    have ht4 := (ht2.below hb3).below hba
    obtain ⟨z0, z1⟩ := ((hZ.below hb3).below hba).two
    clear hN1 hB2 hB3 hb3 hba hR3 hZ ht2
    go_wp2_with fail
    refine (hCk _ hR4).mono ?_
    rintro r w5 ⟨rfl, hb5⟩
    have hB5 := hB4.trans (hb5.mono (by have := hB4.size; omega))
    have ht5 := ht4.below hb5
    clear hCk hB4 hb5 hR4 ht4
    go_wp2_with fail
    refine (hA _ ht5).mono ?_
    rintro r w6 ⟨rfl, hb6⟩
    go_wp2_with fail
    go_ret
    exact ⟨rfl, hB5.trans (hb6.mono (by have := hB5.size; omega))⟩

end Go.Proofs.YtigojnpjpagfjaaDoor.M
