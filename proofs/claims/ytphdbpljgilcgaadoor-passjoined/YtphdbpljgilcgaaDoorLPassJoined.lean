/-
  Own text: the walk of the law PassJoined.
-/
import Derived.Test.YtphdbpljgilcgaaDoorSAwake
namespace Go.Proofs.YtphdbpljgilcgaaDoor.M
open Go.ChangeShapes Go.WideShapes Go.ChangeAt Go.RowKit Go.Proofs
set_option linter.unusedSimpArgs false

theorem joinL_fit {a b : List Sn} (ha : Fit a) (hb : Fit b) : Fit (joinL a b).1 := by
  unfold joinL
  split
  · split
    · split
      · exact fit_nil
      · exact Fit.joi ha hb
    · exact fit_nil
  · exact fit_nil

theorem joinL_six {a b : List Sn} : (joinL a b).1.length ≤ 6 := by
  unfold joinL
  split
  · split
    · split
      · simp
      · simp; omega
    · simp
  · simp

set_option maxRecDepth 20000 in
set_option maxHeartbeats 4000000 in
theorem walk_PassJoined (w : World) (hT : Tabs w) (p : Option Addr) (n c : Nat) (A : List Sn) (ha : RdM w p n c A) (fa : Fit A) (p2 : Option Addr) (m d : Nat) (B : List Sn) (hb : RdM w p2 m d B) (fb : Fit B) (q : Nat) (hq : q < 18446744073709551616) :
    Calls Tryd.prog 5 #[.slice p n c, .slice p2 m d, .agg #[.int .u8 (bt (q) 0), .int .u8 (bt (q) 1), .int .u8 (bt (q) 2), .int .u8 (bt (q) 3), .int .u8 (bt (q) 4), .int .u8 (bt (q) 5), .int .u8 (bt (q) 6), .int .u8 (bt (q) 7)]] w fun r w' => r = .returned (.bool true) ∧ Below w.heap.size w w' := by
  have hb0 := below_alloc w (.cells #[.int .u8 (bt (q) 0), .int .u8 (bt (q) 1), .int .u8 (bt (q) 2), .int .u8 (bt (q) 3), .int .u8 (bt (q) 4), .int .u8 (bt (q) 5), .int .u8 (bt (q) 6), .int .u8 (bt (q) 7)] 34)
  obtain ⟨a0, a1, a2, a3, a4, a5, a6, a7⟩ := box8 w 34 q
  have ha0 := ha.below hb0
  have hB0 := hb.below hb0
  have hT0 := hT.up hb0
  clear ha hb
  by_cases hbig : 1000 < n ∨ 1000 < m
  · have cA := awake_any _ hT0
    clear ha0 hB0
    rcases (show 1000 < n ∨ (¬ 1000 < n ∧ 1000 < m) by omega) with hbi | ⟨hbi, hbj⟩
    · have hbi' : (1000 : Int) < (n : Int) := by omega
      go_enter Tryd.func5, Tryd.ntmps5
      go_wp2_with fail
      refine cA.mono ?_
      rintro e w1 ⟨rfl, hb1⟩
      clear cA
      go_wp2_with fail
      go_ret
      exact ⟨rfl, hb0.trans (hb1.mono hb0.size)⟩
    · have hbi' : ¬ (1000 : Int) < (n : Int) := by omega
      have hbj' : (1000 : Int) < (m : Int) := by omega
      go_enter Tryd.func5, Tryd.ntmps5
      go_wp2_with fail
      refine cA.mono ?_
      rintro e w1 ⟨rfl, hb1⟩
      clear cA
      go_wp2_with fail
      go_ret
      exact ⟨rfl, hb0.trans (hb1.mono hb0.size)⟩
  · have hbi : ¬ (1000 : Int) < (n : Int) := by omega
    have hbj : ¬ (1000 : Int) < (m : Int) := by omega
    obtain ⟨j1, j2⟩ := joined (a := A) (b := B)
    have cX := join_any p n c A p2 m d B _ ha0 fa (by omega) hB0 fb (by omega) hT0
    have cY := fun W (h1 : RdM W p n c A) (h2 : RdM W p2 m d B) (h3 : Tabs W) => join_any p2 m d B p n c A W h2 fb (by omega) h1 fa (by omega) h3
    have fX := joinL_fit fa fb
    have fY := joinL_fit fb fa
    have lX := joinL_six (a := A) (b := B)
    have lY := joinL_six (a := B) (b := A)
    by_cases hE : (joinL A B).2 = 0
    · have hE2 := j1.1 hE
      obtain ⟨eXY, hE3, eZ, hfl⟩ := j2 hE
      have hflq := hfl q
      have cZ := fun (q1 : Option Addr) (d1 : Nat) W (h1 : RdM W q1 (joinL A B).1.length d1 (joinL A B).1) (h2 : RdM W p2 m d B) (h3 : Tabs W) => join_any q1 _ d1 (joinL A B).1 p2 m d B W h1 fX (by omega) h2 fb (by omega) h3
      rw [hE] at cX
      rw [hE2, ← eXY] at cY
      rw [hE3, eZ] at cZ
      clear hE hE2 hE3 j1 j2 eXY eZ hfl lY fY
      generalize (joinL A B).1 = X at *
      obtain ⟨x, hx⟩ : ∃ x, X.length = x := ⟨_, rfl⟩
      rw [hx] at cX cY lX
      have cZ' : ∀ (q1 : Option Addr) (d1 : Nat) W, RdM W q1 x d1 X → RdM W p2 m d B → Tabs W → Calls Tryd.prog 13 #[.slice q1 x d1, .slice p2 m d] W fun e w' => ∃ p' c', e = .returned (.tuple #[.slice p' x c', .int .i64 0]) ∧ RdM w' p' x c' X ∧ Below W.heap.size W w' := fun q1 d1 W h1 h2 h3 => by subst hx; exact cZ q1 d1 W h1 h2 h3
      clear cZ hx
      have HM : Hid (max (floorL A q) (floorL B q) = floorL X q) := hflq.symm
      have hm2 : (floorL X q == max (floorL A q) (floorL B q)) = true := by rw [HM.out]; simp
      clear hflq
      go_enter Tryd.func5, Tryd.ntmps5
      go_wp2_with fail
      generalize (w.alloc (.cells #[.int .u8 (bt (q) 0), .int .u8 (bt (q) 1), .int .u8 (bt (q) 2), .int .u8 (bt (q) 3), .int .u8 (bt (q) 4), .int .u8 (bt (q) 5), .int .u8 (bt (q) 6), .int .u8 (bt (q) 7)] 34)) = w0 at *
      refine cX.mono ?_
      rintro e w1 ⟨q1, d1, rfl, hx1, hb1⟩
      have ha1 := ha0.below hb1
      have hB1 := hB0.below hb1
      have hT1 := hT0.up hb1
      have hbb1 := hb0.trans (hb1.mono hb0.size)
      have b0 := (hb1.cell (p := ⟨w.heap.size, 0, none⟩) (World.block_lt_of_cell? _ _ a0)).trans a0
      have b1 := (hb1.cell (p := ⟨w.heap.size, 1, none⟩) (World.block_lt_of_cell? _ _ a1)).trans a1
      have b2 := (hb1.cell (p := ⟨w.heap.size, 2, none⟩) (World.block_lt_of_cell? _ _ a2)).trans a2
      have b3 := (hb1.cell (p := ⟨w.heap.size, 3, none⟩) (World.block_lt_of_cell? _ _ a3)).trans a3
      have b4 := (hb1.cell (p := ⟨w.heap.size, 4, none⟩) (World.block_lt_of_cell? _ _ a4)).trans a4
      have b5 := (hb1.cell (p := ⟨w.heap.size, 5, none⟩) (World.block_lt_of_cell? _ _ a5)).trans a5
      have b6 := (hb1.cell (p := ⟨w.heap.size, 6, none⟩) (World.block_lt_of_cell? _ _ a6)).trans a6
      have b7 := (hb1.cell (p := ⟨w.heap.size, 7, none⟩) (World.block_lt_of_cell? _ _ a7)).trans a7
      clear cX ha0 hB0 hT0 hb0 hb1
      clear a0 a1 a2 a3 a4 a5 a6 a7
      go_wp2_with fail
      refine (cY _ ha1 hB1 hT1).mono ?_
      rintro e w2 ⟨q2, d2, rfl, hy2, hb2⟩
      have ha2 := ha1.below hb2
      have hB2 := hB1.below hb2
      have hx2 := hx1.below hb2
      have hT2 := hT1.up hb2
      have hbb2 := hbb1.trans (hb2.mono hbb1.size)
      have c0 := (hb2.cell (p := ⟨w.heap.size, 0, none⟩) (World.block_lt_of_cell? _ _ b0)).trans b0
      have c1 := (hb2.cell (p := ⟨w.heap.size, 1, none⟩) (World.block_lt_of_cell? _ _ b1)).trans b1
      have c2 := (hb2.cell (p := ⟨w.heap.size, 2, none⟩) (World.block_lt_of_cell? _ _ b2)).trans b2
      have c3 := (hb2.cell (p := ⟨w.heap.size, 3, none⟩) (World.block_lt_of_cell? _ _ b3)).trans b3
      have c4 := (hb2.cell (p := ⟨w.heap.size, 4, none⟩) (World.block_lt_of_cell? _ _ b4)).trans b4
      have c5 := (hb2.cell (p := ⟨w.heap.size, 5, none⟩) (World.block_lt_of_cell? _ _ b5)).trans b5
      have c6 := (hb2.cell (p := ⟨w.heap.size, 6, none⟩) (World.block_lt_of_cell? _ _ b6)).trans b6
      have c7 := (hb2.cell (p := ⟨w.heap.size, 7, none⟩) (World.block_lt_of_cell? _ _ b7)).trans b7
      clear cY ha1 hB1 hT1 hx1 hbb1 hb2
      clear b0 b1 b2 b3 b4 b5 b6 b7
      go_wp2_with fail
      refine (cZ' _ _ _ hx2 hB2 hT2).mono ?_
      rintro e w3 ⟨q3, d3, rfl, hz3, hb3⟩
      have ha3 := ha2.below hb3
      have hB3 := hB2.below hb3
      have hx3 := hx2.below hb3
      have hy3 := hy2.below hb3
      have hT3 := hT2.up hb3
      have hbb3 := hbb2.trans (hb3.mono hbb2.size)
      have e0 := (hb3.cell (p := ⟨w.heap.size, 0, none⟩) (World.block_lt_of_cell? _ _ c0)).trans c0
      have e1 := (hb3.cell (p := ⟨w.heap.size, 1, none⟩) (World.block_lt_of_cell? _ _ c1)).trans c1
      have e2 := (hb3.cell (p := ⟨w.heap.size, 2, none⟩) (World.block_lt_of_cell? _ _ c2)).trans c2
      have e3 := (hb3.cell (p := ⟨w.heap.size, 3, none⟩) (World.block_lt_of_cell? _ _ c3)).trans c3
      have e4 := (hb3.cell (p := ⟨w.heap.size, 4, none⟩) (World.block_lt_of_cell? _ _ c4)).trans c4
      have e5 := (hb3.cell (p := ⟨w.heap.size, 5, none⟩) (World.block_lt_of_cell? _ _ c5)).trans c5
      have e6 := (hb3.cell (p := ⟨w.heap.size, 6, none⟩) (World.block_lt_of_cell? _ _ c6)).trans c6
      have e7 := (hb3.cell (p := ⟨w.heap.size, 7, none⟩) (World.block_lt_of_cell? _ _ c7)).trans c7
      clear cZ' ha2 hB2 hT2 hx2 hy2 hbb2 hb3
      clear c0 c1 c2 c3 c4 c5 c6 c7
      go_wp2_with fail
      have k0 := cell_regrown e0
      have k1 := cell_regrown e1
      have k2 := cell_regrown e2
      have k3 := cell_regrown e3
      have k4 := cell_regrown e4
      have k5 := cell_regrown e5
      have k6 := cell_regrown e6
      have k7 := cell_regrown e7
      have kE := fun d os => Calls.regrown_of (equalM_any q1 q2 x x d1 d2 X X (Sort.grow (redrawn w3 d) os) (hx3.below (below_regrown w3 d os)) (hy3.below (below_regrown w3 d os)) fX fX (by omega) (by omega))
      have kF := fun d os => Calls.regrown_of (equalM_any q1 q3 x x d1 d3 X X (Sort.grow (redrawn w3 d) os) (hx3.below (below_regrown w3 d os)) (hz3.below (below_regrown w3 d os)) fX fX (by omega) (by omega))
      have kX := fun d os => Calls.regrown_of (floor_any q1 x d1 X q (Sort.grow (redrawn w3 d) os) (hx3.below (below_regrown w3 d os)) fX hq (by omega) (hT3.up (below_regrown w3 d os)))
      have kA := fun dd os => Calls.regrown_of (floor_any p n c A q (Sort.grow (redrawn w3 dd) os) (ha3.below (below_regrown w3 dd os)) fa hq (by omega) (hT3.up (below_regrown w3 dd os)))
      have kB := fun dd os => Calls.regrown_of (floor_any p2 m d B q (Sort.grow (redrawn w3 dd) os) (hB3.below (below_regrown w3 dd os)) fb hq (by omega) (hT3.up (below_regrown w3 dd os)))
      have kW := fun d os => Calls.regrown_of (awake_any (Sort.grow (redrawn w3 d) os) (hT3.up (below_regrown w3 d os)))
      rw [eqSns_self] at kE kF
      generalize floorL X q = fx at *
      generalize floorL A q = fA at *
      generalize floorL B q = fB at *
      refine wp_region_quiet_below (by kernel_rfl) (by kernel_rfl) ?_
      repeat (with_reducible refine wpQuiet_step (fun K hK => ?_); go_simp; first | (with_reducible refine hK _ ?_; clear hK K) | (rw [if_neg (by decide)]; with_reducible refine hK _ ?_; clear hK K) | (apply Exists.intro; refine ⟨fun _ => ?_, hK _ ?_⟩; (first | (go_at_call 10; first | with_reducible exact kE _ _ | with_reducible exact kF _ _) | (go_at_call 12; first | with_reducible exact kX _ _ | with_reducible exact kA _ _ | with_reducible exact kB _ _) | (go_at_call 7; first | with_reducible exact kW _ _)); clear hK K))
      with_reducible refine wpQuiet_nil ?_
      intro _ hw'
      obtain ⟨⟨dq, osq⟩, hw''⟩ := hw'
      subst hw''
      have hB4 := hbb3.trans ((below_regrown w3 dq osq).mono hbb3.size)
      go_wp2_with fail
      go_ret
      exact ⟨rfl, hB4⟩
    · have hE2 : ¬ (joinL B A).2 = 0 := fun h => hE (j1.2 h)
      have hz1 : ((joinL A B).2 == 0) = false := by simpa using hE
      have hz2 : ((joinL B A).2 == 0) = false := by simpa using hE2
      have hz3 : ((joinL A B).2 != 0) = true := by simpa using hE
      have cA := fun W (h : Tabs W) => awake_any W h
      clear hE hE2 j1 j2 fX fY
      generalize (joinL A B).1 = X at *
      generalize (joinL A B).2 = z1 at *
      generalize (joinL B A).1 = Y at *
      generalize (joinL B A).2 = z2 at *
      generalize X.length = lx at *
      generalize Y.length = ly at *
      go_enter Tryd.func5, Tryd.ntmps5
      go_wp2_with fail
      generalize (w.alloc (.cells #[.int .u8 (bt (q) 0), .int .u8 (bt (q) 1), .int .u8 (bt (q) 2), .int .u8 (bt (q) 3), .int .u8 (bt (q) 4), .int .u8 (bt (q) 5), .int .u8 (bt (q) 6), .int .u8 (bt (q) 7)] 34)) = w0 at *
      refine cX.mono ?_
      rintro e w1 ⟨q1, d1, rfl, _, hb1⟩
      have ha1 := ha0.below hb1
      have hB1 := hB0.below hb1
      have hT1 := hT0.up hb1
      have hbb1 := hb0.trans (hb1.mono hb0.size)
      clear cX ha0 hB0 hT0 hb0 hb1
      clear a0 a1 a2 a3 a4 a5 a6 a7
      go_wp2_with fail
      refine (cY _ ha1 hB1 hT1).mono ?_
      rintro e w2 ⟨q2, d2, rfl, _, hb2⟩
      have hT2 := hT1.up hb2
      have hbb2 := hbb1.trans (hb2.mono hbb1.size)
      clear cY ha1 hB1 hT1 hbb1 hb2
      go_wp2_with fail
      refine (cA _ hT2).mono ?_
      rintro e w3 ⟨rfl, hb3⟩
      clear cA
      go_wp2_with fail
      go_ret
      exact ⟨rfl, hbb2.trans (hb3.mono hbb2.size)⟩

end Go.Proofs.YtphdbpljgilcgaaDoor.M
