/-
  Own text: the walk of the statement 'PlanChecks'.
-/
import Derived.Test.YtigojnpjpagfjaaDoorVRef
namespace Go.Proofs.YtigojnpjpagfjaaDoor.M
open Go.ChangeShapes Go.WideShapes Go.ChangeAt Go.RowKit

set_option maxRecDepth 20000 in
set_option maxHeartbeats 4000000 in
theorem walk_PlanChecks (w : World) (ht : Tab w) (h0 h1 h2 h3 h4 h5 v0 v1 v2 : Int) (hv : (v0 ≤ 9223372036854775807 ∧ v1 ≤ 9223372036854775807) ∧ v2 ≤ 9223372036854775807) (e : Int) (p : Option Addr) (n c : Nat) (ms : List Mb) (hr : RdM w p n c ms) :
    Calls Tryd.prog 3 #[.agg #[.int .i64 h0, .int .i64 h1, .int .i64 h2, .int .i64 h3, .int .i64 h4, .int .i64 h5], .agg #[.int .i64 v0, .int .i64 v1, .int .i64 v2], .agg #[.int .i64 e, .slice p n c]] w fun r w' => r = .returned (.bool true) ∧ Below w.heap.size w w' := by
  have hb0 : Below w.heap.size w (((w.alloc (.cells #[.int .i64 h0, .int .i64 h1, .int .i64 h2, .int .i64 h3, .int .i64 h4, .int .i64 h5] 23)).alloc (.cells #[.int .i64 v0, .int .i64 v1, .int .i64 v2] 25)).alloc (.cells #[.int .i64 e, .slice p n c] 28)) := (((Below.refl _ _).alloc (Nat.le_refl _) _).alloc (by simp) _).alloc (by simp; omega) _
  have hH : At 23 (((w.alloc (.cells #[.int .i64 h0, .int .i64 h1, .int .i64 h2, .int .i64 h3, .int .i64 h4, .int .i64 h5] 23)).alloc (.cells #[.int .i64 v0, .int .i64 v1, .int .i64 v2] 25)).alloc (.cells #[.int .i64 e, .slice p n c] 28)) w.heap.size #[.int .i64 h0, .int .i64 h1, .int .i64 h2, .int .i64 h3, .int .i64 h4, .int .i64 h5] := ((At.new 23 w _).alloc _).alloc _
  have hV : At 25 (((w.alloc (.cells #[.int .i64 h0, .int .i64 h1, .int .i64 h2, .int .i64 h3, .int .i64 h4, .int .i64 h5] 23)).alloc (.cells #[.int .i64 v0, .int .i64 v1, .int .i64 v2] 25)).alloc (.cells #[.int .i64 e, .slice p n c] 28)) (w.heap.size + 1) #[.int .i64 v0, .int .i64 v1, .int .i64 v2] := At.moved (by simp) ((At.new 25 _ _).alloc _)
  have hX : At 28 (((w.alloc (.cells #[.int .i64 h0, .int .i64 h1, .int .i64 h2, .int .i64 h3, .int .i64 h4, .int .i64 h5] 23)).alloc (.cells #[.int .i64 v0, .int .i64 v1, .int .i64 v2] 25)).alloc (.cells #[.int .i64 e, .slice p n c] 28)) (w.heap.size + 2) #[.int .i64 e, .slice p n c] := At.moved (by simp) (At.new 28 _ _)
  have hr0 := hr.below hb0
  have ht0 := ht.below hb0
  have hA := fun W hx => awake_any W hx
  have HL : Hid (ms.length = n) := hr.len
  generalize hw : w.heap.size = b at *
  obtain ⟨x0, x1⟩ := hX.two
  obtain ⟨m0, m1, m2, m3, m4, m5⟩ := hH.six
  obtain ⟨n0, n1, n2⟩ := hV.three
  by_cases hn60 : 60 < n
  · have hni : (60 : Int) < (n : Int) := by omega
    clear hr hr0
    go_enter Tryd.func3, Tryd.ntmps3
    go_wp2_with fail
    refine (hA _ ht0).mono ?_
    rintro r w1 ⟨rfl, hb1⟩
    go_wp2_with fail
    go_ret
    exact ⟨rfl, hb0.trans (hb1.mono (by have := hb0.size; omega))⟩
  have hni : ¬ (60 : Int) < (n : Int) := by omega
  have hn : n ≤ 5864062014805 := by omega
  have hLk := pLacks_any e p n c ms v0 v1 v2 hv _ hr0 hn
  obtain ⟨l0, HO0⟩ : ∃ x, Hid (lackV ms v0 0 = x) := ⟨_, rfl⟩
  obtain ⟨l1, HO1⟩ : ∃ x, Hid (lackV ms v1 1 = x) := ⟨_, rfl⟩
  obtain ⟨l2, HO2⟩ : ∃ x, Hid (lackV ms v2 2 = x) := ⟨_, rfl⟩
  rw [HO0.out, HO1.out, HO2.out] at hLk
  obtain ⟨⟨hv0, hv1⟩, hv2⟩ := hv
  have hiW := fun k hk W => idxW v0 v1 v2 k hk W
  go_enter Tryd.func3, Tryd.ntmps3
  go_wp2_with fail
  generalize (((w.alloc (.cells #[.int .i64 h0, .int .i64 h1, .int .i64 h2, .int .i64 h3, .int .i64 h4, .int .i64 h5] 23)).alloc (.cells #[.int .i64 v0, .int .i64 v1, .int .i64 v2] 25)).alloc (.cells #[.int .i64 e, .slice p n c] 28)) = w0 at *
  refine hLk.mono ?_
  rintro r w1 ⟨rfl, hb1⟩
  have hB1 := hb0.trans (hb1.mono (by have := hb0.size; omega))
  have hba := below_alloc w1 (.cells #[.int .i64 l0, .int .i64 l1, .int .i64 l2] 25)
  have hB2 := hB1.trans (hba.mono (by have := hB1.size; omega))
  have hH2 := (hH.below hb1).below hba
  have hV2 := (hV.below hb1).below hba
  have hX2 := (hX.below hb1).below hba
  have hG2 := At.new 25 w1 #[.int .i64 l0, .int .i64 l1, .int .i64 l2]
  obtain ⟨n0, n1, n2⟩ := hV2.three
  clear hLk hb0 hb1 hba hB1 hH hV hX hr0 ht0
  go_wp2_with fail
  generalize (w1.alloc (.cells #[.int .i64 l0, .int .i64 l1, .int .i64 l2] 25)) = w2 at *
  generalize w1.heap.size = g at *
  go_loopw [21] (fun i wr => ∃ k : Nat, k ≤ 3 ∧ i = .int .i64 k ∧ At 23 wr b #[.int .i64 h0, .int .i64 h1, .int .i64 h2, .int .i64 h3, .int .i64 h4, .int .i64 h5] ∧ At 25 wr (b + 1) #[.int .i64 v0, .int .i64 v1, .int .i64 v2] ∧ At 28 wr (b + 2) #[.int .i64 e, .slice p n c] ∧ At 25 wr g #[.int .i64 l0, .int .i64 l1, .int .i64 l2] ∧ Below b w wr) (fun i _ => 3 - (intOf i).toNat)
  case atStart => exact ⟨0, by omega, rfl, hH2, hV2, hX2, hG2, hB2⟩
  case round =>
    clear hH2 hV2 hX2 hG2 hB2 n0 n1 n2 x0 x1 m0 m1 m2 m3 m4 m5
    obtain ⟨k, hk, rfl, hH, hV, hX, hG, hb⟩ := hrel
    obtain ⟨x0, x1⟩ := hX.two
    by_cases h : k < 3
    · have hln := HL.out
      obtain rfl | rfl | rfl : k = 0 ∨ k = 1 ∨ k = 2 := by omega
      · have hi : ∀ W, (Instr.index 25 (.agg #[.int .i64 v0, .int .i64 v1, .int .i64 v2]) (.int .i64 0)).run Tryd.prog W = .ok (.int .i64 v0) W := fun W => hiW 0 (by decide) W
        have hM := many_any e p n c ms 0 wr (hr.below (by rw [hw]; exact hb)) hn
        have hMn := manyN_le ms 0
        have HL0 : Hid (l0 = if ((manyN ms 0 : Nat) : Int) < v0 then v0 - ((manyN ms 0 : Nat) : Int) else 0) := by unfold Hid; rw [← HO0.out]; rfl
        generalize manyN ms 0 = x at *
        by_cases hm : (x : Int) < v0
        · have HE : Hid (l0 = v0 - x) := by unfold Hid; rw [HL0.out, if_pos hm]
          have HEb : ∀ W : World, W.cell? ⟨g, 0, none⟩ = some (.int .i64 l0) → W.cell? ⟨g, 0, none⟩ = some (.int .i64 (v0 - x)) := fun W h => by rw [← HE.out]; exact h
          clear HL0 hiW HL
          go_wp2_with fail
          refine hM.mono ?_
          rintro r w4 ⟨rfl, hb4⟩
          have hB4 := hb.trans (hb4.mono (by have := hb.size; omega))
          have q0 := HEb _ ((hG.below hb4).cell 0)
          clear hM HEb
          go_wp2_with fail
          go_roundw
          case rel => exact ⟨1, by omega, rfl, hH.below hb4, hV.below hb4, hX.below hb4, hG.below hb4, hB4⟩
          case measure => simp [intOf]
        · have HE : Hid (l0 = 0) := by unfold Hid; rw [HL0.out, if_neg hm]
          have HEb : ∀ W : World, W.cell? ⟨g, 0, none⟩ = some (.int .i64 l0) → W.cell? ⟨g, 0, none⟩ = some (.int .i64 0) := fun W h => by rw [← HE.out]; exact h
          clear HL0 hiW HL
          go_wp2_with fail
          refine hM.mono ?_
          rintro r w4 ⟨rfl, hb4⟩
          have hB4 := hb.trans (hb4.mono (by have := hb.size; omega))
          have q0 := HEb _ ((hG.below hb4).cell 0)
          clear hM HEb
          go_wp2_with fail
          go_roundw
          case rel => exact ⟨1, by omega, rfl, hH.below hb4, hV.below hb4, hX.below hb4, hG.below hb4, hB4⟩
          case measure => simp [intOf]
      · have hi : ∀ W, (Instr.index 25 (.agg #[.int .i64 v0, .int .i64 v1, .int .i64 v2]) (.int .i64 1)).run Tryd.prog W = .ok (.int .i64 v1) W := fun W => hiW 1 (by decide) W
        have hM := many_any e p n c ms 1 wr (hr.below (by rw [hw]; exact hb)) hn
        have hMn := manyN_le ms 1
        have HL1 : Hid (l1 = if ((manyN ms 1 : Nat) : Int) < v1 then v1 - ((manyN ms 1 : Nat) : Int) else 0) := by unfold Hid; rw [← HO1.out]; rfl
        generalize manyN ms 1 = x at *
        by_cases hm : (x : Int) < v1
        · have HE : Hid (l1 = v1 - x) := by unfold Hid; rw [HL1.out, if_pos hm]
          have HEb : ∀ W : World, W.cell? ⟨g, 1, none⟩ = some (.int .i64 l1) → W.cell? ⟨g, 1, none⟩ = some (.int .i64 (v1 - x)) := fun W h => by rw [← HE.out]; exact h
          clear HL1 hiW HL
          go_wp2_with fail
          refine hM.mono ?_
          rintro r w4 ⟨rfl, hb4⟩
          have hB4 := hb.trans (hb4.mono (by have := hb.size; omega))
          have q1 := HEb _ ((hG.below hb4).cell 1)
          clear hM HEb
          go_wp2_with fail
          go_roundw
          case rel => exact ⟨2, by omega, rfl, hH.below hb4, hV.below hb4, hX.below hb4, hG.below hb4, hB4⟩
          case measure => simp [intOf]
        · have HE : Hid (l1 = 0) := by unfold Hid; rw [HL1.out, if_neg hm]
          have HEb : ∀ W : World, W.cell? ⟨g, 1, none⟩ = some (.int .i64 l1) → W.cell? ⟨g, 1, none⟩ = some (.int .i64 0) := fun W h => by rw [← HE.out]; exact h
          clear HL1 hiW HL
          go_wp2_with fail
          refine hM.mono ?_
          rintro r w4 ⟨rfl, hb4⟩
          have hB4 := hb.trans (hb4.mono (by have := hb.size; omega))
          have q1 := HEb _ ((hG.below hb4).cell 1)
          clear hM HEb
          go_wp2_with fail
          go_roundw
          case rel => exact ⟨2, by omega, rfl, hH.below hb4, hV.below hb4, hX.below hb4, hG.below hb4, hB4⟩
          case measure => simp [intOf]
      · have hi : ∀ W, (Instr.index 25 (.agg #[.int .i64 v0, .int .i64 v1, .int .i64 v2]) (.int .i64 2)).run Tryd.prog W = .ok (.int .i64 v2) W := fun W => hiW 2 (by decide) W
        have hM := many_any e p n c ms 2 wr (hr.below (by rw [hw]; exact hb)) hn
        have hMn := manyN_le ms 2
        have HL2 : Hid (l2 = if ((manyN ms 2 : Nat) : Int) < v2 then v2 - ((manyN ms 2 : Nat) : Int) else 0) := by unfold Hid; rw [← HO2.out]; rfl
        generalize manyN ms 2 = x at *
        by_cases hm : (x : Int) < v2
        · have HE : Hid (l2 = v2 - x) := by unfold Hid; rw [HL2.out, if_pos hm]
          have HEb : ∀ W : World, W.cell? ⟨g, 2, none⟩ = some (.int .i64 l2) → W.cell? ⟨g, 2, none⟩ = some (.int .i64 (v2 - x)) := fun W h => by rw [← HE.out]; exact h
          clear HL2 hiW HL
          go_wp2_with fail
          refine hM.mono ?_
          rintro r w4 ⟨rfl, hb4⟩
          have hB4 := hb.trans (hb4.mono (by have := hb.size; omega))
          have q2 := HEb _ ((hG.below hb4).cell 2)
          clear hM HEb
          go_wp2_with fail
          go_roundw
          case rel => exact ⟨3, by omega, rfl, hH.below hb4, hV.below hb4, hX.below hb4, hG.below hb4, hB4⟩
          case measure => simp [intOf]
        · have HE : Hid (l2 = 0) := by unfold Hid; rw [HL2.out, if_neg hm]
          have HEb : ∀ W : World, W.cell? ⟨g, 2, none⟩ = some (.int .i64 l2) → W.cell? ⟨g, 2, none⟩ = some (.int .i64 0) := fun W h => by rw [← HE.out]; exact h
          clear HL2 hiW HL
          go_wp2_with fail
          refine hM.mono ?_
          rintro r w4 ⟨rfl, hb4⟩
          have hB4 := hb.trans (hb4.mono (by have := hb.size; omega))
          have q2 := HEb _ ((hG.below hb4).cell 2)
          clear hM HEb
          go_wp2_with fail
          go_roundw
          case rel => exact ⟨3, by omega, rfl, hH.below hb4, hV.below hb4, hX.below hb4, hG.below hb4, hB4⟩
          case measure => simp [intOf]
    · have ht1 := ht.below (by rw [hw]; exact hb)
      have hbW := fun d os => below_regrown wr d os
      obtain ⟨m0, m1, m2, m3, m4, m5⟩ := hH.six
      obtain ⟨n0, n1, n2⟩ := hV.three
      have c1 := fun d os => Calls.regrown_of (pCheck_any h0 h1 h2 h3 h4 h5 v0 v1 v2 (Sort.grow (redrawn wr d) os))
      have c2 := fun d os => Calls.regrown_of (rpCheck_any h0 h1 h2 h3 h4 h5 v0 v1 v2 (Sort.grow (redrawn wr d) os))
      have c3 := fun d os => Calls.regrown_of (hA (Sort.grow (redrawn wr d) os) (ht1.below (hbW d os)))
      unfold planV at c1 c2
      generalize (if planC [h0, h1, h2, h3, h4, h5] [v0, v1, v2] = true then (0 : Int) else 1) = pe at *
      have k0 := cell_regrown m0
      have k1 := cell_regrown m1
      have k2 := cell_regrown m2
      have k3 := cell_regrown m3
      have k4 := cell_regrown m4
      have k5 := cell_regrown m5
      have j0 := cell_regrown n0
      have j1 := cell_regrown n1
      have j2 := cell_regrown n2
      clear hbW hr ht ht1 hH hV hX hG x0 x1 m0 m1 m2 m3 m4 m5 n0 n1 n2 hiW HL HO0 HO1 HO2
      go_wp2_with fail
      refine wp_region_quiet_below (by kernel_rfl) (by kernel_rfl) ?_
      repeat (quiet_step (first | (go_at_call 12; exact c1 _ _) | (go_at_call 13; exact c2 _ _) | (go_at_call 9; exact c3 _ _)))
      refine wpQuiet_nil ?_
      intro _ hw'
      obtain ⟨⟨dq, osq⟩, hw''⟩ := hw'
      subst hw''
      have hbq := below_regrown wr dq osq
      go_wp2_with fail
      go_ret
      exact ⟨rfl, hb.trans (hbq.mono (by have := hb.size; omega))⟩

end Go.Proofs.YtigojnpjpagfjaaDoor.M
