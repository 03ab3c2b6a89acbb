/-
  Own text: the walk of the law PassFloors.
-/
import Derived.Test.YtphdbpljgilcgaaDoorSAwake
namespace Go.Proofs.YtphdbpljgilcgaaDoor.M
open Go.ChangeShapes Go.WideShapes Go.ChangeAt Go.RowKit Go.Proofs
set_option linter.unusedSimpArgs false

theorem seeL_fit {L : List Sn} {q : Nat} {v : Int} (h : Fit L) (hq : q < 18446744073709551616) : Fit (seeL L q v).1 := by
  by_cases h0 : (seeL L q v).2 = 0
  · rw [(see_ok h0).2.2.2.2.2]
    exact ins_all (p := fun s => s.n < 18446744073709551616) L q v h (fun _ => hq) (fun _ _ _ => hq)
  · rw [see_bad h0]
    exact fit_nil

set_option maxRecDepth 20000 in
set_option maxHeartbeats 4000000 in
theorem walk_PassFloors (w : World) (hT : Tabs w) (p : Option Addr) (n c : Nat) (L : List Sn) (hr : RdM w p n c L) (hf : Fit L) (q o : Nat) (hq : q < 18446744073709551616) (ho : o < 18446744073709551616) (v : Int) :
    Calls Tryd.prog 4 #[.slice p n c, .agg #[.int .u8 (bt (q) 0), .int .u8 (bt (q) 1), .int .u8 (bt (q) 2), .int .u8 (bt (q) 3), .int .u8 (bt (q) 4), .int .u8 (bt (q) 5), .int .u8 (bt (q) 6), .int .u8 (bt (q) 7)], .agg #[.int .u8 (bt (o) 0), .int .u8 (bt (o) 1), .int .u8 (bt (o) 2), .int .u8 (bt (o) 3), .int .u8 (bt (o) 4), .int .u8 (bt (o) 5), .int .u8 (bt (o) 6), .int .u8 (bt (o) 7)], .int .i64 v] w fun r w' => r = .returned (.bool true) ∧ Below w.heap.size w w' := by
  have hb1 := below_alloc w (.cells #[.int .u8 (bt (q) 0), .int .u8 (bt (q) 1), .int .u8 (bt (q) 2), .int .u8 (bt (q) 3), .int .u8 (bt (q) 4), .int .u8 (bt (q) 5), .int .u8 (bt (q) 6), .int .u8 (bt (q) 7)] 34)
  have hb2 := below_alloc (w.alloc (.cells #[.int .u8 (bt (q) 0), .int .u8 (bt (q) 1), .int .u8 (bt (q) 2), .int .u8 (bt (q) 3), .int .u8 (bt (q) 4), .int .u8 (bt (q) 5), .int .u8 (bt (q) 6), .int .u8 (bt (q) 7)] 34)) (.cells #[.int .u8 (bt (o) 0), .int .u8 (bt (o) 1), .int .u8 (bt (o) 2), .int .u8 (bt (o) 3), .int .u8 (bt (o) 4), .int .u8 (bt (o) 5), .int .u8 (bt (o) 6), .int .u8 (bt (o) 7)] 34)
  have hb0 := hb1.trans (hb2.mono hb1.size)
  have hs1 : (w.alloc (.cells #[.int .u8 (bt (q) 0), .int .u8 (bt (q) 1), .int .u8 (bt (q) 2), .int .u8 (bt (q) 3), .int .u8 (bt (q) 4), .int .u8 (bt (q) 5), .int .u8 (bt (q) 6), .int .u8 (bt (q) 7)] 34)).heap.size = w.heap.size + 1 := by simp
  obtain ⟨a0, a1, a2, a3, a4, a5, a6, a7⟩ := box8 w 34 q
  obtain ⟨c0, c1, c2, c3, c4, c5, c6, c7⟩ := box8 (w.alloc (.cells #[.int .u8 (bt (q) 0), .int .u8 (bt (q) 1), .int .u8 (bt (q) 2), .int .u8 (bt (q) 3), .int .u8 (bt (q) 4), .int .u8 (bt (q) 5), .int .u8 (bt (q) 6), .int .u8 (bt (q) 7)] 34)) 34 o
  have b0 := (hb2.cell (p := ⟨w.heap.size, 0, none⟩) (World.block_lt_of_cell? _ _ a0)).trans a0
  have b1 := (hb2.cell (p := ⟨w.heap.size, 1, none⟩) (World.block_lt_of_cell? _ _ a1)).trans a1
  have b2 := (hb2.cell (p := ⟨w.heap.size, 2, none⟩) (World.block_lt_of_cell? _ _ a2)).trans a2
  have b3 := (hb2.cell (p := ⟨w.heap.size, 3, none⟩) (World.block_lt_of_cell? _ _ a3)).trans a3
  have b4 := (hb2.cell (p := ⟨w.heap.size, 4, none⟩) (World.block_lt_of_cell? _ _ a4)).trans a4
  have b5 := (hb2.cell (p := ⟨w.heap.size, 5, none⟩) (World.block_lt_of_cell? _ _ a5)).trans a5
  have b6 := (hb2.cell (p := ⟨w.heap.size, 6, none⟩) (World.block_lt_of_cell? _ _ a6)).trans a6
  have b7 := (hb2.cell (p := ⟨w.heap.size, 7, none⟩) (World.block_lt_of_cell? _ _ a7)).trans a7
  rw [hs1] at c0 c1 c2 c3 c4 c5 c6 c7
  have hr0 := hr.below hb0
  have hT0 := hT.up hb0
  clear hr hb1 hb2 hs1
  clear a0 a1 a2 a3 a4 a5 a6 a7
  by_cases hbig : 1000 < n
  · have hbi : (1000 : Int) < (n : Int) := by omega
    have cA := awake_any _ hT0
    clear hr0
    go_enter Tryd.func4, Tryd.ntmps4
    go_wp2_with fail
    refine cA.mono ?_
    rintro e w1 ⟨rfl, hb1⟩
    clear cA
    go_wp2_with fail
    go_ret
    exact ⟨rfl, hb0.trans (hb1.mono hb0.size)⟩
  · have hbi : ¬ (1000 : Int) < (n : Int) := by omega
    have cS := see_any p n c L q v _ hr0 hf hq (by omega) hT0
    have hfx := seeL_fit (v := v) hf hq
    by_cases hE : (seeL L q v).2 = 0
    · obtain ⟨f1, f2, f3⟩ := floors hE
      have hle : (seeL L q v).1.length ≤ 6 := right_six f1
      rw [hE] at cS
      clear hE
      generalize (seeL L q v).1 = X at *
      obtain ⟨m, hm⟩ : ∃ m, X.length = m := ⟨_, rfl⟩
      rw [hm] at cS hle
      clear hm
      go_enter Tryd.func4, Tryd.ntmps4
      go_wp2_with fail
      generalize ((w.alloc (.cells #[.int .u8 (bt (q) 0), .int .u8 (bt (q) 1), .int .u8 (bt (q) 2), .int .u8 (bt (q) 3), .int .u8 (bt (q) 4), .int .u8 (bt (q) 5), .int .u8 (bt (q) 6), .int .u8 (bt (q) 7)] 34)).alloc (.cells #[.int .u8 (bt (o) 0), .int .u8 (bt (o) 1), .int .u8 (bt (o) 2), .int .u8 (bt (o) 3), .int .u8 (bt (o) 4), .int .u8 (bt (o) 5), .int .u8 (bt (o) 6), .int .u8 (bt (o) 7)] 34)) = w0 at *
      refine cS.mono ?_
      rintro e w2 ⟨xp, xc, rfl, hx, hb2⟩
      have hB2 := hb0.trans (hb2.mono hb0.size)
      have hr2 := hr0.below hb2
      have hT2 := hT0.up hb2
      have d0 := (hb2.cell (p := ⟨w.heap.size, 0, none⟩) (World.block_lt_of_cell? _ _ b0)).trans b0
      have d1 := (hb2.cell (p := ⟨w.heap.size, 1, none⟩) (World.block_lt_of_cell? _ _ b1)).trans b1
      have d2 := (hb2.cell (p := ⟨w.heap.size, 2, none⟩) (World.block_lt_of_cell? _ _ b2)).trans b2
      have d3 := (hb2.cell (p := ⟨w.heap.size, 3, none⟩) (World.block_lt_of_cell? _ _ b3)).trans b3
      have d4 := (hb2.cell (p := ⟨w.heap.size, 4, none⟩) (World.block_lt_of_cell? _ _ b4)).trans b4
      have d5 := (hb2.cell (p := ⟨w.heap.size, 5, none⟩) (World.block_lt_of_cell? _ _ b5)).trans b5
      have d6 := (hb2.cell (p := ⟨w.heap.size, 6, none⟩) (World.block_lt_of_cell? _ _ b6)).trans b6
      have d7 := (hb2.cell (p := ⟨w.heap.size, 7, none⟩) (World.block_lt_of_cell? _ _ b7)).trans b7
      have e0 := (hb2.cell (p := ⟨(w.heap.size + 1), 0, none⟩) (World.block_lt_of_cell? _ _ c0)).trans c0
      have e1 := (hb2.cell (p := ⟨(w.heap.size + 1), 1, none⟩) (World.block_lt_of_cell? _ _ c1)).trans c1
      have e2 := (hb2.cell (p := ⟨(w.heap.size + 1), 2, none⟩) (World.block_lt_of_cell? _ _ c2)).trans c2
      have e3 := (hb2.cell (p := ⟨(w.heap.size + 1), 3, none⟩) (World.block_lt_of_cell? _ _ c3)).trans c3
      have e4 := (hb2.cell (p := ⟨(w.heap.size + 1), 4, none⟩) (World.block_lt_of_cell? _ _ c4)).trans c4
      have e5 := (hb2.cell (p := ⟨(w.heap.size + 1), 5, none⟩) (World.block_lt_of_cell? _ _ c5)).trans c5
      have e6 := (hb2.cell (p := ⟨(w.heap.size + 1), 6, none⟩) (World.block_lt_of_cell? _ _ c6)).trans c6
      have e7 := (hb2.cell (p := ⟨(w.heap.size + 1), 7, none⟩) (World.block_lt_of_cell? _ _ c7)).trans c7
      clear cS hr0 hT0 hb2 hb0
      clear b0 b1 b2 b3 b4 b5 b6 b7 c0 c1 c2 c3 c4 c5 c6 c7
      go_wp2_with fail
      have k0 := cell_regrown d0
      have k1 := cell_regrown d1
      have k2 := cell_regrown d2
      have k3 := cell_regrown d3
      have k4 := cell_regrown d4
      have k5 := cell_regrown d5
      have k6 := cell_regrown d6
      have k7 := cell_regrown d7
      have k1R := fun d os => Calls.regrown_of (right_any xp m xc X (Sort.grow (redrawn w2 d) os) (hx.below (below_regrown w2 d os)) hfx (by omega) (hT2.up (below_regrown w2 d os)))
      have k1F := fun d os => Calls.regrown_of (floor_any xp m xc X q (Sort.grow (redrawn w2 d) os) (hx.below (below_regrown w2 d os)) hfx hq (by omega) (hT2.up (below_regrown w2 d os)))
      have k1G := fun d os => Calls.regrown_of (floor_any p n c L q (Sort.grow (redrawn w2 d) os) (hr2.below (below_regrown w2 d os)) hf hq (by omega) (hT2.up (below_regrown w2 d os)))
      have hm1 : max v (floorL L q) = floorL X q := f2.symm
      rw [f1] at k1R
      have f3o := f3 o
      clear f1 f2 f3
      have HM : Hid (max v (floorL L q) = floorL X q) := hm1
      have hm2 : (floorL X q != max v (floorL L q)) = false := by rw [HM.out]; simp
      clear hm1
      generalize floorL X q = fx at *
      generalize floorL L q = fl0 at *
      refine wp_region_quiet_below (by kernel_rfl) (by kernel_rfl) ?_
      repeat (with_reducible refine wpQuiet_step (fun K hK => ?_); go_simp; first | (with_reducible refine hK _ ?_; clear hK K) | (rw [if_neg (by decide)]; with_reducible refine hK _ ?_; clear hK K) | (apply Exists.intro; refine ⟨fun _ => ?_, hK _ ?_⟩; (first | (go_at_call 6; first | with_reducible exact k1R _ _) | (go_at_call 12; first | with_reducible exact k1F _ _ | with_reducible exact k1G _ _)); clear hK K))
      with_reducible refine wpQuiet_nil ?_
      intro _ hw'
      obtain ⟨⟨dq, osq⟩, hw''⟩ := hw'
      subst hw''
      have hbq := below_regrown w2 dq osq
      have hB3 := hB2.trans (hbq.mono hB2.size)
      have hr3 := hr2.below hbq
      have hx3 := hx.below hbq
      have hT3 := hT2.up hbq
      have g0 := cell_regrown d0 dq osq
      have h0 := cell_regrown e0 dq osq
      have g1 := cell_regrown d1 dq osq
      have h1 := cell_regrown e1 dq osq
      have g2 := cell_regrown d2 dq osq
      have h2 := cell_regrown e2 dq osq
      have g3 := cell_regrown d3 dq osq
      have h3 := cell_regrown e3 dq osq
      have g4 := cell_regrown d4 dq osq
      have h4 := cell_regrown e4 dq osq
      have g5 := cell_regrown d5 dq osq
      have h5 := cell_regrown e5 dq osq
      have g6 := cell_regrown d6 dq osq
      have h6 := cell_regrown e6 dq osq
      have g7 := cell_regrown d7 dq osq
      have h7 := cell_regrown e7 dq osq
      clear k1R k1F k1G hr2 hx hT2 hB2 hbq
      clear d0 d1 d2 d3 d4 d5 d6 d7 e0 e1 e2 e3 e4 e5 e6 e7 k0 k1 k2 k3 k4 k5 k6 k7
      generalize (Sort.grow (redrawn w2 dq) osq) = w3 at *
      go_wp2_with fail
      have k0 := cell_regrown g0
      have k1 := cell_regrown g1
      have k2 := cell_regrown g2
      have k3 := cell_regrown g3
      have k4 := cell_regrown g4
      have k5 := cell_regrown g5
      have k6 := cell_regrown g6
      have k7 := cell_regrown g7
      have l0 := cell_regrown h0
      have l1 := cell_regrown h1
      have l2 := cell_regrown h2
      have l3 := cell_regrown h3
      have l4 := cell_regrown h4
      have l5 := cell_regrown h5
      have l6 := cell_regrown h6
      have l7 := cell_regrown h7
      have kE := fun W => eql_keys o q ho hq W
      have kF := fun d os => Calls.regrown_of (floor_any xp m xc X o (Sort.grow (redrawn w3 d) os) (hx3.below (below_regrown w3 d os)) hfx ho (by omega) (hT3.up (below_regrown w3 d os)))
      have kG := fun d os => Calls.regrown_of (floor_any p n c L o (Sort.grow (redrawn w3 d) os) (hr3.below (below_regrown w3 d os)) hf ho (by omega) (hT3.up (below_regrown w3 d os)))
      have kA := fun d os => Calls.regrown_of (awake_any (Sort.grow (redrawn w3 d) os) (hT3.up (below_regrown w3 d os)))
      by_cases hoq : o = q
      · have hdq : decide (o = q) = true := decide_eq_true hoq
        rw [hdq] at kE
        clear hdq hoq f3o kF kG
        refine wp_region_quiet_below (by kernel_rfl) (by kernel_rfl) ?_
        repeat (with_reducible refine wpQuiet_step (fun K hK => ?_); go_simp; first | (with_reducible refine hK _ ?_; clear hK K) | (rw [if_neg (by decide)]; with_reducible refine hK _ ?_; clear hK K) | (apply Exists.intro; refine ⟨fun _ => ?_, hK _ ?_⟩; (first | (go_at_call 7; first | with_reducible exact kA _ _)); clear hK K))
        with_reducible refine wpQuiet_nil ?_
        intro _ hw'
        obtain ⟨⟨dq, osq⟩, hw''⟩ := hw'
        subst hw''
        have hB4 := hB3.trans ((below_regrown w3 dq osq).mono hB3.size)
        go_wp2_with fail
        go_ret
        exact ⟨rfl, hB4⟩
      · have hdq : decide (o = q) = false := decide_eq_false hoq
        have hfo := f3o hoq
        rw [hdq] at kE
        rw [hfo] at kF
        clear hdq hoq f3o hfo
        generalize floorL L o = fo at *
        refine wp_region_quiet_below (by kernel_rfl) (by kernel_rfl) ?_
        repeat (with_reducible refine wpQuiet_step (fun K hK => ?_); go_simp; first | (with_reducible refine hK _ ?_; clear hK K) | (rw [if_neg (by decide)]; with_reducible refine hK _ ?_; clear hK K) | (apply Exists.intro; refine ⟨fun _ => ?_, hK _ ?_⟩; (first | (go_at_call 12; first | with_reducible exact kF _ _ | with_reducible exact kG _ _) | (go_at_call 7; first | with_reducible exact kA _ _)); clear hK K))
        with_reducible refine wpQuiet_nil ?_
        intro _ hw'
        obtain ⟨⟨dq, osq⟩, hw''⟩ := hw'
        subst hw''
        have hB4 := hB3.trans ((below_regrown w3 dq osq).mono hB3.size)
        go_wp2_with fail
        go_ret
        exact ⟨rfl, hB4⟩
    · have hX := see_bad hE
      have cS' : Calls Tryd.prog 11 #[.slice p n c, .agg #[.int .u8 (bt (q) 0), .int .u8 (bt (q) 1), .int .u8 (bt (q) 2), .int .u8 (bt (q) 3), .int .u8 (bt (q) 4), .int .u8 (bt (q) 5), .int .u8 (bt (q) 6), .int .u8 (bt (q) 7)], .int .i64 v] _ fun e w' => ∃ p' c', e = .returned (.tuple #[.slice p' 0 c', .int .i64 (seeL L q v).2]) ∧ Below ((w.alloc (.cells #[.int .u8 (bt (q) 0), .int .u8 (bt (q) 1), .int .u8 (bt (q) 2), .int .u8 (bt (q) 3), .int .u8 (bt (q) 4), .int .u8 (bt (q) 5), .int .u8 (bt (q) 6), .int .u8 (bt (q) 7)] 34)).alloc (.cells #[.int .u8 (bt (o) 0), .int .u8 (bt (o) 1), .int .u8 (bt (o) 2), .int .u8 (bt (o) 3), .int .u8 (bt (o) 4), .int .u8 (bt (o) 5), .int .u8 (bt (o) 6), .int .u8 (bt (o) 7)] 34)).heap.size ((w.alloc (.cells #[.int .u8 (bt (q) 0), .int .u8 (bt (q) 1), .int .u8 (bt (q) 2), .int .u8 (bt (q) 3), .int .u8 (bt (q) 4), .int .u8 (bt (q) 5), .int .u8 (bt (q) 6), .int .u8 (bt (q) 7)] 34)).alloc (.cells #[.int .u8 (bt (o) 0), .int .u8 (bt (o) 1), .int .u8 (bt (o) 2), .int .u8 (bt (o) 3), .int .u8 (bt (o) 4), .int .u8 (bt (o) 5), .int .u8 (bt (o) 6), .int .u8 (bt (o) 7)] 34)) w' := cS.mono fun e w' ⟨p', c', h1, _, h3⟩ => ⟨p', c', by rw [hX] at h1; exact h1, h3⟩
      have hz : ((seeL L q v).2 != 0) = true := by simpa using hE
      have cA := fun W (h : Tabs W) => awake_any W h
      clear cS hX hE hfx hr0
      generalize (seeL L q v).2 = z at *
      go_enter Tryd.func4, Tryd.ntmps4
      go_wp2_with fail
      refine cS'.mono ?_
      rintro e w2 ⟨xp, xc, rfl, hb2⟩
      have hB2 := hb0.trans (hb2.mono hb0.size)
      have hT2 := hT0.up hb2
      clear cS' hT0 hb2 hb0
      go_wp2_with fail
      refine (cA _ hT2).mono ?_
      rintro e w3 ⟨rfl, hb3⟩
      clear cA
      go_wp2_with fail
      go_ret
      exact ⟨rfl, hB2.trans (hb3.mono hB2.size)⟩

end Go.Proofs.YtphdbpljgilcgaaDoor.M
