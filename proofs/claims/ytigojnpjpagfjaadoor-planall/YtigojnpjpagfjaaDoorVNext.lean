/-
  Own text: the command that is to be told next: contract of the state's next.
-/
import Derived.Test.YtigojnpjpagfjaaDoorVJoin
namespace Go.Proofs.YtigojnpjpagfjaaDoor.M
open Go.ChangeShapes Go.WideShapes Go.ChangeAt Go.RowKit

set_option maxRecDepth 20000 in
set_option maxHeartbeats 4000000 in
theorem next_any (e : Int) (p : Option Addr) (n c : Nat) (ms : List Mb) (al : Nat) (h0 h1 h2 h3 h4 h5 v0 v1 v2 : Int) (hv : (v0 ≤ 9223372036854775807 ∧ v1 ≤ 9223372036854775807) ∧ v2 ≤ 9223372036854775807) (w : World) (hal : al < 18446744073709551616) (hr : RdM w p n c ms) (hn : n ≤ 5864062014805) (ht : Tab w) :
    Calls Tryd.prog 39 #[.agg #[.int .i64 e, .slice p n c, .int .u64 (al : Int), .int .i64 h0, .int .i64 h1, .int .i64 h2, .int .i64 h3, .int .i64 h4, .int .i64 h5, .int .i64 v0, .int .i64 v1, .int .i64 v2]] w fun r w' => ∃ x, r = .returned x ∧ Got w.heap.size w' x (nextR al [h0, h1, h2, h3, h4, h5] [v0, v1, v2] e ms) ∧ Below w.heap.size w w' := by
  have hb0 : Below w.heap.size w (((w.alloc (.cells #[.int .i64 e, .slice p n c, .int .u64 (al : Int), .int .i64 h0, .int .i64 h1, .int .i64 h2, .int .i64 h3, .int .i64 h4, .int .i64 h5, .int .i64 v0, .int .i64 v1, .int .i64 v2] 72)).alloc (.cells #[.int .i64 0, .int .i64 0, .int .i64 0, .int .i64 0] 37)).alloc (.cells #[.int .i64 0, .slice none 0 0] 28)) := (((Below.refl _ _).alloc (Nat.le_refl _) _).alloc (by simp) _).alloc (by simp; omega) _
  have hS : At 72 (((w.alloc (.cells #[.int .i64 e, .slice p n c, .int .u64 (al : Int), .int .i64 h0, .int .i64 h1, .int .i64 h2, .int .i64 h3, .int .i64 h4, .int .i64 h5, .int .i64 v0, .int .i64 v1, .int .i64 v2] 72)).alloc (.cells #[.int .i64 0, .int .i64 0, .int .i64 0, .int .i64 0] 37)).alloc (.cells #[.int .i64 0, .slice none 0 0] 28)) w.heap.size #[.int .i64 e, .slice p n c, .int .u64 (al : Int), .int .i64 h0, .int .i64 h1, .int .i64 h2, .int .i64 h3, .int .i64 h4, .int .i64 h5, .int .i64 v0, .int .i64 v1, .int .i64 v2] := ((At.new 72 w _).alloc _).alloc _
  have hC : At 37 (((w.alloc (.cells #[.int .i64 e, .slice p n c, .int .u64 (al : Int), .int .i64 h0, .int .i64 h1, .int .i64 h2, .int .i64 h3, .int .i64 h4, .int .i64 h5, .int .i64 v0, .int .i64 v1, .int .i64 v2] 72)).alloc (.cells #[.int .i64 0, .int .i64 0, .int .i64 0, .int .i64 0] 37)).alloc (.cells #[.int .i64 0, .slice none 0 0] 28)) (w.heap.size + 1) #[.int .i64 0, .int .i64 0, .int .i64 0, .int .i64 0] := At.moved (by simp) ((At.new 37 _ _).alloc _)
  have hH : At 28 (((w.alloc (.cells #[.int .i64 e, .slice p n c, .int .u64 (al : Int), .int .i64 h0, .int .i64 h1, .int .i64 h2, .int .i64 h3, .int .i64 h4, .int .i64 h5, .int .i64 v0, .int .i64 v1, .int .i64 v2] 72)).alloc (.cells #[.int .i64 0, .int .i64 0, .int .i64 0, .int .i64 0] 37)).alloc (.cells #[.int .i64 0, .slice none 0 0] 28)) (w.heap.size + 2) #[.int .i64 0, .slice none 0 0] := At.moved (by simp) (At.new 28 _ _)
  generalize hw : w.heap.size = b at *
  have hr0 := hr.below (by rw [hw]; exact hb0)
  have ht0 := ht.below (by rw [hw]; exact hb0)
  have hD := dead_any e p n c ms al h0 h1 h2 h3 h4 h5 v0 v1 v2 _ hal hr0 hn
  obtain ⟨R, HR⟩ : ∃ x, Hid (nextR al [h0, h1, h2, h3, h4, h5] [v0, v1, v2] e ms = x) := ⟨_, rfl⟩
  rw [HR.out]
  obtain ⟨a0, a1, a2, ⟨a3, a4, a5, a6, a7, a8⟩, a9, a10, a11⟩ := hS.state
  go_enter Tryd.func39, Tryd.ntmps39
  go_wp2_with fail
  generalize (((w.alloc (.cells #[.int .i64 e, .slice p n c, .int .u64 (al : Int), .int .i64 h0, .int .i64 h1, .int .i64 h2, .int .i64 h3, .int .i64 h4, .int .i64 h5, .int .i64 v0, .int .i64 v1, .int .i64 v2] 72)).alloc (.cells #[.int .i64 0, .int .i64 0, .int .i64 0, .int .i64 0] 37)).alloc (.cells #[.int .i64 0, .slice none 0 0] 28)) = w0 at *
  refine hD.mono ?_
  rintro r w1 ⟨x1, rfl, hg1, hb1⟩
  have hS1 := hS.below hb1
  have hC1 := hC.below hb1
  have hH1 := hH.below hb1
  have hr1 := hr0.below hb1
  have ht1 := ht0.below hb1
  have hX : b + 2 < w0.heap.size := hH.lt
  have hB1 := hb0.trans (hb1.mono (by have := hb0.size; omega))
  clear hS hC hH hr0 ht0 hb0 hb1 hD a0 a1 a2 a3 a4 a5 a6 a7 a8 a9 a10 a11 hr ht
  cases hdd : deadR al e ms ms with
  | some y =>
    obtain ⟨⟨yk, yn, ys, ye⟩, e2, ms2⟩ := y
    have HR1 : Hid (R = some (⟨yk, yn, ys, ye⟩, e2, ms2)) := by unfold Hid; rw [← HR.out]; unfold nextR; rw [hdd]
    rw [hdd] at hg1
    obtain ⟨q1, c1, rfl, hq1, hr2⟩ := hg1
    dsimp only
    have hba := below_alloc w1 (.cells #[.int .i64 yk, .int .i64 yn, .int .i64 ys, .int .i64 ye] 37)
    have hbb := below_alloc (w1.alloc (.cells #[.int .i64 yk, .int .i64 yn, .int .i64 ys, .int .i64 ye] 37)) (.cells #[.int .i64 e2, .slice q1 ms2.length c1] 28)
    have hNC := (At.new 37 w1 #[.int .i64 yk, .int .i64 yn, .int .i64 ys, .int .i64 ye]).below hbb
    have hNH : At 28 _ (w1.heap.size + 1) _ := At.moved (by simp) (At.new 28 (w1.alloc (.cells #[.int .i64 yk, .int .i64 yn, .int .i64 ys, .int .i64 ye] 37)) #[.int .i64 e2, .slice q1 ms2.length c1])
    have hC2 := (hC1.below hba).below hbb
    have hH2 := (hH1.below hba).below hbb
    have hr3 := (hr2.below hba).below hbb
    have hB2 := (hB1.trans (hba.mono (by have := hB1.size; omega)))
    have hB3 := hB2.trans (hbb.mono (by have := hB2.size; omega))
    have hlt : b + 2 < w1.heap.size := hH1.lt
    clear hba hbb hB1 hB2 hS1 hC1 hH1 hr1 ht1 hdd HR
    go_wp2_with fail
    generalize ((w1.alloc (.cells #[.int .i64 yk, .int .i64 yn, .int .i64 ys, .int .i64 ye] 37)).alloc (.cells #[.int .i64 e2, .slice q1 ms2.length c1] 28)) = w2 at *
    generalize w1.heap.size = g at *
    obtain ⟨c0', c1', c2', c3'⟩ := hC2.four
    obtain ⟨d0, d1⟩ := hH2.two
    obtain ⟨f0, f1, f2, f3⟩ := hC2.free4
    obtain ⟨j0, j1, j2, j3⟩ := hH2.free4
    obtain ⟨m0, m1, m2, m3⟩ := hNC.four
    obtain ⟨n0, n1⟩ := hNH.two
    have ne1 : ¬ b + 1 = g := by omega
    have ne2 : ¬ b + 2 = g := by omega
    have ne3 : ¬ g = b + 1 := by omega
    have ne4 : ¬ g = b + 2 := by omega
    have ne5 : ¬ b + 1 = g + 1 := by omega
    have ne6 : ¬ b + 2 = g + 1 := by omega
    have ne7 : ¬ g + 1 = b + 1 := by omega
    have ne8 : ¬ g + 1 = b + 2 := by omega
    go_region
    all_goals go_wp2_with fail
    have hqb : ∀ a, q1 = some a → 0 < ms2.length → b + 2 < a.block := fun a ha h0 => Nat.lt_of_lt_of_le hX (hq1 a ha h0)
    exact bodyPost_ret (results_three (p := 2) (q := 3) (u := 4) rfl _ _ (b + 1) (b + 2) _ _ _ _ _ _ rfl rfl (((hC2.put4 _ _ _ _).other2 (b + 2) (by omega) _ _).drew) (((hH2.other4 (b + 1) (by omega) _ _ _ _).put2 _ _).drew)) rfl ⟨_, rfl, by
      rw [HR1.out]
      exact ⟨q1, c1, rfl, fun a ha h0 => by have := hqb a ha h0; omega, (((hr3.put4 _ _ _ _ (fun a ha h0 => by have := hqb a ha h0; omega)).put _ _ (fun a ha h0 => by have := hqb a ha h0; omega))).drew⟩, Below.drewR (Below.put2 (Below.put4 hB3 (by omega) _ _ _ _) (by omega) _ _)⟩
  | none =>
    have HR1 : Hid (joinA al [h0, h1, h2, h3, h4, h5] [v0, v1, v2] e ms = R) := by unfold Hid; rw [← HR.out]; unfold nextR; rw [hdd]
    rw [hdd] at hg1
    obtain rfl := hg1
    have hba := below_alloc w1 (.cells #[.int .i64 0, .int .i64 0, .int .i64 0, .int .i64 0] 37)
    have hbb := below_alloc (w1.alloc (.cells #[.int .i64 0, .int .i64 0, .int .i64 0, .int .i64 0] 37)) (.cells #[.int .i64 0, .slice none 0 0] 28)
    have hS2 := (hS1.below hba).below hbb
    have hC2 := (hC1.below hba).below hbb
    have hH2 := (hH1.below hba).below hbb
    have hr3 := (hr1.below hba).below hbb
    have ht3 := (ht1.below hba).below hbb
    have hB2 := (hB1.trans (hba.mono (by have := hB1.size; omega)))
    have hB3 := hB2.trans (hbb.mono (by have := hB2.size; omega))
    have hJ := joins_any e p n c ms al h0 h1 h2 h3 h4 h5 v0 v1 v2 hv _ hal hr3 hn ht3
    rw [HR1.out] at hJ
    clear hba hbb hB1 hB2 hS1 hC1 hH1 hr1 ht1 hr3 ht3 hdd HR HR1
    obtain ⟨a0, a1, a2, ⟨a3, a4, a5, a6, a7, a8⟩, a9, a10, a11⟩ := hS2.state
    go_wp2_with fail
    generalize ((w1.alloc (.cells #[.int .i64 0, .int .i64 0, .int .i64 0, .int .i64 0] 37)).alloc (.cells #[.int .i64 0, .slice none 0 0] 28)) = w2 at *
    refine hJ.mono ?_
    rintro r w3 ⟨x3, rfl, hg3, hb3⟩
    have hX3 : b + 2 < w2.heap.size := hH2.lt
    have hC3 := hC2.below hb3
    have hH3 := hH2.below hb3
    have hB4 := hB3.trans (hb3.mono (by have := hB3.size; omega))
    obtain ⟨c0', c1', c2', c3'⟩ := hC3.four
    obtain ⟨d0, d1⟩ := hH3.two
    obtain ⟨f0, f1, f2, f3⟩ := hC3.free4
    obtain ⟨j0, j1, j2, j3⟩ := hH3.free4
    clear hC2 hH2 hS2 hJ hB3 a0 a1 a2 a3 a4 a5 a6 a7 a8 a9 a10 a11
    cases R with
    | none =>
      obtain rfl := hg3
      go_wp2_with fail
      exact bodyPost_ret (results_three (p := 2) (q := 3) (u := 4) rfl _ _ (b + 1) (b + 2) _ _ _ _ _ _ rfl rfl ((hC3.put4 _ _ _ _).other2 (b + 2) (by omega) _ _) ((hH3.other4 (b + 1) (by omega) _ _ _ _).put2 _ _)) rfl ⟨_, rfl, rfl, Below.put2 (Below.put4 hB4 (by omega) _ _ _ _) (by omega) _ _⟩
    | some y =>
      obtain ⟨⟨yk, yn, ys, ye⟩, e2, ms2⟩ := y
      obtain ⟨q1, c1, rfl, hq1, hr4⟩ := hg3
      dsimp only
      have hqb : ∀ a, q1 = some a → 0 < ms2.length → b + 2 < a.block := fun a ha h0 => Nat.lt_of_lt_of_le hX3 (hq1 a ha h0)
      go_wp2_with fail
      exact bodyPost_ret (results_three (p := 2) (q := 3) (u := 4) rfl _ _ (b + 1) (b + 2) _ _ _ _ _ _ rfl rfl ((hC3.put4 _ _ _ _).other2 (b + 2) (by omega) _ _) ((hH3.other4 (b + 1) (by omega) _ _ _ _).put2 _ _)) rfl ⟨_, rfl, ⟨q1, c1, rfl, fun a ha h0 => by have := hqb a ha h0; omega, ((hr4.put4 _ _ _ _ (fun a ha h0 => by have := hqb a ha h0; omega)).put _ _ (fun a ha h0 => by have := hqb a ha h0; omega))⟩, Below.put2 (Below.put4 hB4 (by omega) _ _ _ _) (by omega) _ _⟩

end Go.Proofs.YtigojnpjpagfjaaDoor.M
