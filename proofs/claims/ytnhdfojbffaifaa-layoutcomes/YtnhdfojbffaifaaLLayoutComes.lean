/-
  Own text: the walk of the law LayoutComes.
-/
import Derived.Test.YtnhdfojbffaifaaYComP
namespace Go.Proofs.Ytnhdfojbffaifaa.M
open Go.ChangeShapes Go.WideShapes Go.ChangeAt Go.RowKit

set_option linter.unusedSimpArgs false in
set_option maxRecDepth 20000 in
set_option maxHeartbeats 40000000 in
theorem walk_LayoutComes (w : World) (pl : Option Addr) (nl cl : Nat) (ls : List Mb) (hl : RdM w pl nl cl ls) (pk : Option Addr) (nk ck : Nat) (ds : List Dm) (hd : RdD w pk nk ck ds) :
    Calls Try.prog 7 #[.slice pl nl cl, .slice pk nk ck] w fun r w' => r = .returned (.bool true) ∧ Below w.heap.size w w' := by
  have hA := fun W => awake_any W
  by_cases hn : 60 < nl
  · have hni : (60 : Int) < (nl : Int) := by omega
    go_enter Try.func7, Try.ntmps7
    go_wp2_with fail
    refine (hA _).mono ?_
    rintro r w1 ⟨rfl, hb1⟩
    go_wp2_with fail
    go_ret
    exact ⟨rfl, hb1⟩
  have hni : ¬ (60 : Int) < (nl : Int) := by omega
  by_cases hm : 200 < nk
  · have hmi : (200 : Int) < (nk : Int) := by omega
    go_enter Try.func7, Try.ntmps7
    go_wp2_with fail
    refine (hA _).mono ?_
    rintro r w1 ⟨rfl, hb1⟩
    go_wp2_with fail
    go_ret
    exact ⟨rfl, hb1⟩
  have hmi : ¬ (200 : Int) < (nk : Int) := by omega
  have hF := First_all pl nl cl ls w hl (by omega)
  clear hl
  go_enter Try.func7, Try.ntmps7
  go_wp2_with fail
  refine hF.mono ?_
  rintro r W1 ⟨R, v, hg, rfl, hT, hb1⟩
  have hd1 := hd.below hb1
  clear hF hd
  rcases hg with ⟨k, rfl, hk0⟩ | ⟨e, ms, rfl, hck⟩
  · obtain rfl : v = .tuple #[.agg #[.int .i64 0, .slice none 0 0], .int .i64 k] := hT
    have hkb : (k != 0) = true := by simpa using hk0
    have hba : Below W1.heap.size W1 (W1.alloc (.cells #[.int .i64 0, .slice none 0 0] 24)) := (Below.refl _ _).alloc (Nat.le_refl _) _
    go_wp2_with fail
    refine (hA _).mono ?_
    rintro r W2 ⟨rfl, hb2⟩
    go_wp2_with fail
    go_ret
    exact ⟨rfl, (hb1.trans (hba.mono hb1.size)).trans (hb2.mono (hb1.trans (hba.mono hb1.size)).size)⟩
  · obtain ⟨q, c, rfl, hq, hr⟩ := hT
    have hba : Below W1.heap.size W1 (W1.alloc (.cells #[.int .i64 e, .slice q ms.length c] 24)) := (Below.refl _ _).alloc (Nat.le_refl _) _
    have ha := hr.below hba
    have z0 : (W1.alloc (.cells #[.int .i64 e, .slice q ms.length c] 24)).cell? ⟨W1.heap.size, 0, none⟩ = some (.int .i64 e) := by simp
    have z1 : (W1.alloc (.cells #[.int .i64 e, .slice q ms.length c] 24)).cell? ⟨W1.heap.size, 1, none⟩ = some (.slice q ms.length c) := by simp
    have f0 : (W1.alloc (.cells #[.int .i64 e, .slice q ms.length c] 24)).frozen? ⟨W1.heap.size, 0, none⟩ = false := by simp
    have f1 : (W1.alloc (.cells #[.int .i64 e, .slice q ms.length c] 24)).frozen? ⟨W1.heap.size, 1, none⟩ = false := by simp
    have hqx : ∀ a, q = some a → 0 < ms.length → a.block ≠ W1.heap.size := fun a ha h0 => by
      obtain ⟨g, o, e1, hc⟩ := hr.cells h0
      rw [ha] at e1
      cases e1
      exact Nat.ne_of_lt (World.block_lt_of_cell? _ _ (hc 0 h0).1)
    go_wp2_with fail
    go_loopw [31] (fun i wr => ∃ (k : Nat) (e : Int) (ms : List Mb) (q : Option Addr) (c : Nat), k ≤ nk ∧ i = .int .i64 k ∧ chk e ms = true ∧ wr.cell? ⟨W1.heap.size, 0, none⟩ = some (.int .i64 e) ∧ wr.cell? ⟨W1.heap.size, 1, none⟩ = some (.slice q ms.length c) ∧ wr.frozen? ⟨W1.heap.size, 0, none⟩ = false ∧ wr.frozen? ⟨W1.heap.size, 1, none⟩ = false ∧ RdM wr q ms.length c ms ∧ (∀ a, q = some a → 0 < ms.length → a.block ≠ W1.heap.size) ∧ Below W1.heap.size W1 wr) (fun i _ => nk - (intOf i).toNat)
    case atStart => exact ⟨0, e, ms, q, c, Nat.zero_le _, rfl, hck, z0, z1, f0, f1, ha, hqx, hba⟩
    case round =>
      clear z0 z1 f0 f1 ha hr hqx hq hba hck
      obtain ⟨k, e, ms, q, c, hk, rfl, hck, z0, z1, f0, f1, hr, hqx, hb⟩ := hrel
      have hx := World.block_lt_of_cell? _ _ z0
      dsimp only at hx
      by_cases h : k < nk
      · have hki : (k : Int) < (nk : Int) := by omega
        obtain ⟨gd, od, rfl, hc⟩ := (hd1.below hb).cells (by omega)
        obtain ⟨t0, t1, t2, t3⟩ := hc k h
        clear hc
        generalize ds.getD k .z0 = dm at *
        obtain ⟨op, nd, st, fr⟩ := dm
        dsimp only at t0 t1 t2 t3
        obtain ⟨_, _, hn0, hn6⟩ := chk_parts hck
        have hbD : Below wr.heap.size wr (wr.alloc (.cells #[.int .i64 op, .int .i64 nd, .int .i64 st, .bool fr] 39)) := (Below.refl _ _).alloc (Nat.le_refl _) _
        have hX := does_any op nd st fr e q ms.length c ms (wr.alloc (.cells #[.int .i64 op, .int .i64 nd, .int .i64 st, .bool fr] 39)) (hr.below hbD) (by omega)
        have u0 := cell_below hbD z0
        have u1 := cell_below hbD z1
        have o0 : (wr.alloc (.cells #[.int .i64 op, .int .i64 nd, .int .i64 st, .bool fr] 39)).cell? ⟨wr.heap.size, 0, none⟩ = some (.int .i64 op) := by simp
        have hsD : (wr.alloc (.cells #[.int .i64 op, .int .i64 nd, .int .i64 st, .bool fr] 39)).heap.size = wr.heap.size + 1 := by simp
        go_wp2_with fail
        refine hX.mono ?_
        rintro r W4 ⟨v, rfl, hT, hb4⟩
        have hB4 := hb.trans ((hbD.trans (hb4.mono hbD.size)).mono hb.size)
        have hr4 := (hr.below hbD).below hb4
        replace u0 := cell_below hb4 u0
        replace u1 := cell_below hb4 u1
        replace o0 := cell_below hb4 o0
        have p0 := (hb4.frozen (p := ⟨W1.heap.size, 0, none⟩) (by rw [hsD]; show W1.heap.size < wr.heap.size + 1; omega)).trans ((hbD.frozen (p := ⟨W1.heap.size, 0, none⟩) hx).trans f0)
        have p1 := (hb4.frozen (p := ⟨W1.heap.size, 1, none⟩) (by rw [hsD]; show W1.heap.size < wr.heap.size + 1; omega)).trans ((hbD.frozen (p := ⟨W1.heap.size, 1, none⟩) hx).trans f1)
        have hx4 := World.block_lt_of_cell? _ _ u0
        dsimp only at hx4
        have h4s : wr.heap.size + 1 ≤ W4.heap.size := by have := hb4.size; omega
        clear hX t0 t1 t2 t3 z0 z1 f0 f1
        cases hR : dR op nd st fr e ms with
        | error k2 =>
          have hk2 := dR_err hR
          rw [hR] at hT
          obtain rfl : v = .tuple #[.agg #[.int .i64 0, .slice none 0 0], .int .i64 k2] := hT
          have hkb : (k2 != 0) = true := by simpa using hk2
          have hbE : Below W4.heap.size W4 (W4.alloc (.cells #[.int .i64 0, .slice none 0 0] 24)) := (Below.refl _ _).alloc (Nat.le_refl _) _
          go_wp2_with fail
          go_roundw
          case rel => exact ⟨k + 1, e, ms, q, c, by omega, by go_num, hck, cell_below hbE u0, cell_below hbE u1, (hbE.frozen hx4).trans p0, (hbE.frozen hx4).trans p1, hr4.below hbE, hqx, hB4.trans (hbE.mono hB4.size)⟩
          case measure => simp [intOf]; omega
        | ok R2 =>
          obtain ⟨e2, ms2⟩ := R2
          have k2 := dR_chk hck hR
          have HS : Hid _ := dR_steps hck hR
          rw [hR] at hT
          obtain ⟨q2, c2, rfl, hq2, hr2⟩ := hT
          obtain ⟨_, _, hn0', hn6'⟩ := chk_parts k2
          obtain ⟨he1, he2, _, _⟩ := chk_parts hck
          have hbE : Below W4.heap.size W4 (W4.alloc (.cells #[.int .i64 e2, .slice q2 ms2.length c2] 24)) := (Below.refl _ _).alloc (Nat.le_refl _) _
          have hqx2 : ∀ a, q2 = some a → 0 < ms2.length → a.block ≠ W1.heap.size := fun a ha h0 => by have := hq2 a ha h0; omega
          have hr5 := hr2.below hbE
          have hm5 := hr4.below hbE
          have z0 := cell_below hbE u0
          have z1 := cell_below hbE u1
          have o5 := cell_below hbE o0
          have g0 : (W4.alloc (.cells #[.int .i64 e2, .slice q2 ms2.length c2] 24)).cell? ⟨W4.heap.size, 0, none⟩ = some (.int .i64 e2) := by simp
          have g1 : (W4.alloc (.cells #[.int .i64 e2, .slice q2 ms2.length c2] 24)).cell? ⟨W4.heap.size, 1, none⟩ = some (.slice q2 ms2.length c2) := by simp
          have y0 := (hbE.frozen (p := ⟨W1.heap.size, 0, none⟩) hx4).trans p0
          have y1 := (hbE.frozen (p := ⟨W1.heap.size, 1, none⟩) hx4).trans p1
          have hB5 := hB4.trans (hbE.mono hB4.size)
          have hx5 : W1.heap.size < (W4.alloc (.cells #[.int .i64 e2, .slice q2 ms2.length c2] 24)).heap.size := Nat.lt_of_lt_of_le hx4 hbE.size
          have HNd0 : Hid (thN (fun _ => true) 0 ms2 = thN (fun _ => true) 0 ms2) := rfl
          obtain ⟨Nd, HNd⟩ : ∃ x, Hid (thN (fun _ => true) 0 ms2 = x) := ⟨_, rfl⟩
          obtain ⟨Wd, HWd⟩ : ∃ x, Hid (thN (fun m => !m.f) 0 ms2 = x) := ⟨_, rfl⟩
          obtain ⟨Wc, HWc⟩ : ∃ x, Hid (thN (fun m => !m.f) 0 ms = x) := ⟨_, rfl⟩
          obtain ⟨Wb, HWb⟩ : ∃ x, Hid (Wd &&& (18446744073709551615 - Wc) = x) := ⟨_, rfl⟩
          have hWd : Wd < 18446744073709551616 := by rw [← HWd.out]; exact thN_lt _ _ _ (by decide)
          have hWc : Wc < 18446744073709551616 := by rw [← HWc.out]; exact thN_lt _ _ _ (by decide)
          have hWb : Wb < 18446744073709551616 := by rw [← HWb.out]; exact and_lt64 hWd
          obtain ⟨hn2, HHe⟩ : ∃ x, Hid (endM e2 ms2 0 = x) := ⟨_, rfl⟩
          have HHa : Hid (hasN Wd hn2 = true) := by
            unfold Hid
            rw [← HWd.out, ← HHe.out]
            have hw2 := head_whole k2
            have e0 : atM ms2 0 = (ms2.getD 0 .z0).n := atM_lt (ms := ms2) (k := 0) hn0'
            unfold endM
            rw [k2, if_pos rfl, e0]
            exact hw2
          have C_Ck : Hid (∀ W, RdM W q2 ms2.length c2 ms2 → Calls Try.prog 10 #[.agg #[.int .i64 e2, .slice q2 ms2.length c2]] W fun r w' => r = .returned (.int .i64 0) ∧ Below W.heap.size W w') := fun W h => by
            have hh := Check_any e2 q2 ms2.length c2 ms2 W h (by omega)
            rw [k2] at hh
            exact hh
          have C_Nd : Hid (∀ W, RdM W q2 ms2.length c2 ms2 → Calls Try.prog 22 #[.agg #[.int .i64 e2, .slice q2 ms2.length c2]] W fun r w' => r = .returned (.int .u64 (Nd : Nat)) ∧ Below W.heap.size W w') := fun W h => by
            have hh := Nodes_any e2 q2 ms2.length c2 ms2 W h (by omega)
            rw [HNd.out] at hh
            exact hh
          have C_Wd : Hid (∀ W, RdM W q2 ms2.length c2 ms2 → Calls Try.prog 24 #[.agg #[.int .i64 e2, .slice q2 ms2.length c2]] W fun r w' => r = .returned (.int .u64 (Wd : Nat)) ∧ Below W.heap.size W w') := fun W h => by
            have hh := Whole_any e2 q2 ms2.length c2 ms2 W h (by omega)
            rw [HWd.out] at hh
            exact hh
          have C_Wc : Hid (∀ W, RdM W q ms.length c ms → Calls Try.prog 24 #[.agg #[.int .i64 e, .slice q ms.length c]] W fun r w' => r = .returned (.int .u64 (Wc : Nat)) ∧ Below W.heap.size W w') := fun W h => by
            have hh := Whole_any e q ms.length c ms W h (by omega)
            rw [HWc.out] at hh
            exact hh
          have C_Bu : Hid (∀ W, Calls Try.prog 29 #[.int .u64 (Wd : Nat), .int .u64 (Wc : Nat)] W fun r w' => r = .returned (.int .u64 (Wb : Nat)) ∧ Below W.heap.size W w') := fun W => by
            have hh := but_any Wd Wc W hWd hWc
            rw [HWb.out] at hh
            exact hh.mono fun _ _ hx => ⟨hx.1, by rw [hx.2]; exact Below.refl _ _⟩
          have C_He : Hid (∀ W, RdM W q2 ms2.length c2 ms2 → Calls Try.prog 19 #[.agg #[.int .i64 e2, .slice q2 ms2.length c2]] W fun r w' => r = .returned (.int .i64 hn2) ∧ Below W.heap.size W w') := fun W h => by
            have hh := Head_any e2 q2 ms2.length c2 ms2 W h (by omega)
            rw [HHe.out] at hh
            exact hh
          have C_Ha : Hid (∀ W, Calls Try.prog 32 #[.int .u64 (Wd : Nat), .int .i64 hn2] W fun r w' => r = .returned (.bool true) ∧ Below W.heap.size W w') := fun W => by
            have hh := has_any Wd hn2 W hWd
            rw [HHa.out] at hh
            exact hh.mono fun _ _ hx => ⟨hx.1, by rw [hx.2]; exact Below.refl _ _⟩
          clear HNd0 u0 u1 p0 p1 hr hr4 hr2 hb4 hbD hbE hB4 hb hq2
          cases q4 : (wrap64 ((IntKind.u64.wrap op).tmod 5) == 4) with
          | true =>
            go_wp2_with fail
            generalize (W4.alloc (.cells #[.int .i64 e2, .slice q2 ms2.length c2] 24)) = W5 at *
            obtain ⟨S1, S2⟩ := HS.out
            obtain ⟨s1, s2, s3⟩ := S2 q4
            have HP : Hid (pop Wb = 1) := by unfold Hid; rw [← HWb.out, ← HWd.out, ← HWc.out]; exact s3
            have HNc : Hid (thN (fun _ => true) 0 ms = Nd) := by unfold Hid; rw [← HNd.out]; exact s2.symm
            have hne : (e2 != e) = false := by rw [s1]; simp
            have C_Nc : Hid (∀ W, RdM W q ms.length c ms → Calls Try.prog 22 #[.agg #[.int .i64 e, .slice q ms.length c]] W fun r w' => r = .returned (.int .u64 (Nd : Nat)) ∧ Below W.heap.size W w') := fun W h => by
              have hh := Nodes_any e q ms.length c ms W h (by omega)
              rw [HNc.out] at hh
              exact hh
            have C_Le : Hid (∀ W, Calls Try.prog 30 #[.int .u64 (Wb : Nat)] W fun r w' => r = .returned (.int .i64 1) ∧ Below W.heap.size W w') := fun W => by
              have hh := len_any Wb W hWb
              rw [HP.out] at hh
              exact hh.mono fun _ _ hx => ⟨hx.1, by rw [hx.2]; exact Below.refl _ _⟩
            clear s1 s2 s3
            clear S1 S2 HS
            go_wp2_with fail
            have k0 := cell_regrown z0
            have k1 := cell_regrown z1
            have l0 := cell_regrown g0
            have l1 := cell_regrown g1
            have cCk : ∀ dd os, Calls Try.prog 10 #[.agg #[.int .i64 e2, .slice q2 ms2.length c2]] (Sort.grow (redrawn W5 dd) os) fun e w'' => e = .returned (.int .i64 0) ∧ ∃ p : Regrown, w'' = Sort.grow (redrawn W5 p.d) p.os := fun dd os => Calls.regrown_of (C_Ck.out _ (hr5.below (below_regrown _ _ _)))
            have cNd : ∀ dd os, Calls Try.prog 22 #[.agg #[.int .i64 e2, .slice q2 ms2.length c2]] (Sort.grow (redrawn W5 dd) os) fun e w'' => e = .returned (.int .u64 (Nd : Nat)) ∧ ∃ p : Regrown, w'' = Sort.grow (redrawn W5 p.d) p.os := fun dd os => Calls.regrown_of (C_Nd.out _ (hr5.below (below_regrown _ _ _)))
            have cNc : ∀ dd os, Calls Try.prog 22 #[.agg #[.int .i64 e, .slice q ms.length c]] (Sort.grow (redrawn W5 dd) os) fun e w'' => e = .returned (.int .u64 (Nd : Nat)) ∧ ∃ p : Regrown, w'' = Sort.grow (redrawn W5 p.d) p.os := fun dd os => Calls.regrown_of (C_Nc.out _ (hm5.below (below_regrown _ _ _)))
            have cWd : ∀ dd os, Calls Try.prog 24 #[.agg #[.int .i64 e2, .slice q2 ms2.length c2]] (Sort.grow (redrawn W5 dd) os) fun e w'' => e = .returned (.int .u64 (Wd : Nat)) ∧ ∃ p : Regrown, w'' = Sort.grow (redrawn W5 p.d) p.os := fun dd os => Calls.regrown_of (C_Wd.out _ (hr5.below (below_regrown _ _ _)))
            have cWc : ∀ dd os, Calls Try.prog 24 #[.agg #[.int .i64 e, .slice q ms.length c]] (Sort.grow (redrawn W5 dd) os) fun e w'' => e = .returned (.int .u64 (Wc : Nat)) ∧ ∃ p : Regrown, w'' = Sort.grow (redrawn W5 p.d) p.os := fun dd os => Calls.regrown_of (C_Wc.out _ (hm5.below (below_regrown _ _ _)))
            have cBu : ∀ dd os, Calls Try.prog 29 #[.int .u64 (Wd : Nat), .int .u64 (Wc : Nat)] (Sort.grow (redrawn W5 dd) os) fun e w'' => e = .returned (.int .u64 (Wb : Nat)) ∧ ∃ p : Regrown, w'' = Sort.grow (redrawn W5 p.d) p.os := fun dd os => Calls.regrown_of (C_Bu.out _)
            have cLe : ∀ dd os, Calls Try.prog 30 #[.int .u64 (Wb : Nat)] (Sort.grow (redrawn W5 dd) os) fun e w'' => e = .returned (.int .i64 1) ∧ ∃ p : Regrown, w'' = Sort.grow (redrawn W5 p.d) p.os := fun dd os => Calls.regrown_of (C_Le.out _)
            refine wp_region_quiet_below (by kernel_rfl) (by kernel_rfl) ?_
            repeat (with_reducible refine wpQuiet_step (fun K hK => ?_); go_simp; first | (with_reducible refine hK _ ?_; clear hK K) | (rw [if_neg (by decide)]; with_reducible refine hK _ ?_; clear hK K) | (apply Exists.intro; refine ⟨fun _ => ?_, hK _ ?_⟩; (first | (go_at_call 10; with_reducible exact cCk _ _) | (go_at_call 22; first | with_reducible exact cNd _ _ | with_reducible exact cNc _ _) | (go_at_call 24; first | with_reducible exact cWd _ _ | with_reducible exact cWc _ _) | (go_at_call 29; with_reducible exact cBu _ _) | (go_at_call 30; with_reducible exact cLe _ _)); clear hK K))
            with_reducible refine wpQuiet_nil ?_
            intro _ hw'
            obtain ⟨⟨dq, osq⟩, hw''⟩ := hw'
            subst hw''
            have hbq := below_regrown W5 dq osq
            have hB6 := hB5.trans (hbq.mono hB5.size)
            have hr6 := hr5.below hbq
            have hm6 := hm5.below hbq
            replace z0 := cell_below hbq z0
            replace z1 := cell_below hbq z1
            replace g0 := cell_below hbq g0
            replace g1 := cell_below hbq g1
            replace y0 := (hbq.frozen (p := ⟨W1.heap.size, 0, none⟩) hx5).trans y0
            replace y1 := (hbq.frozen (p := ⟨W1.heap.size, 1, none⟩) hx5).trans y1
            replace hx5 := Nat.lt_of_lt_of_le hx5 hbq.size
            clear k0 k1 l0 l1 hbq cCk cNd cNc cWd cWc cBu cLe hr5 hm5 hB5
            generalize Sort.grow (redrawn W5 dq) osq = W6 at *
            go_wp2_with fail
            have k0 := cell_regrown z0
            have k1 := cell_regrown z1
            have l0 := cell_regrown g0
            have l1 := cell_regrown g1
            have cWd : ∀ dd os, Calls Try.prog 24 #[.agg #[.int .i64 e2, .slice q2 ms2.length c2]] (Sort.grow (redrawn W6 dd) os) fun e w'' => e = .returned (.int .u64 (Wd : Nat)) ∧ ∃ p : Regrown, w'' = Sort.grow (redrawn W6 p.d) p.os := fun dd os => Calls.regrown_of (C_Wd.out _ (hr6.below (below_regrown _ _ _)))
            have cHe : ∀ dd os, Calls Try.prog 19 #[.agg #[.int .i64 e2, .slice q2 ms2.length c2]] (Sort.grow (redrawn W6 dd) os) fun e w'' => e = .returned (.int .i64 hn2) ∧ ∃ p : Regrown, w'' = Sort.grow (redrawn W6 p.d) p.os := fun dd os => Calls.regrown_of (C_He.out _ (hr6.below (below_regrown _ _ _)))
            have cHa : ∀ dd os, Calls Try.prog 32 #[.int .u64 (Wd : Nat), .int .i64 hn2] (Sort.grow (redrawn W6 dd) os) fun e w'' => e = .returned (.bool true) ∧ ∃ p : Regrown, w'' = Sort.grow (redrawn W6 p.d) p.os := fun dd os => Calls.regrown_of (C_Ha.out _)
            refine wp_region_quiet_below (by kernel_rfl) (by kernel_rfl) ?_
            repeat (with_reducible refine wpQuiet_step (fun K hK => ?_); go_simp; first | (with_reducible refine hK _ ?_; clear hK K) | (rw [if_neg (by decide)]; with_reducible refine hK _ ?_; clear hK K) | (apply Exists.intro; refine ⟨fun _ => ?_, hK _ ?_⟩; (first | (go_at_call 24; with_reducible exact cWd _ _) | (go_at_call 19; with_reducible exact cHe _ _) | (go_at_call 32; with_reducible exact cHa _ _)); clear hK K))
            with_reducible refine wpQuiet_nil ?_
            intro _ hw'
            obtain ⟨⟨dq, osq⟩, hw''⟩ := hw'
            subst hw''
            have hbq := below_regrown W6 dq osq
            have hB7 := hB6.trans (hbq.mono hB6.size)
            have hr7 := hr6.below hbq
            have hm7 := hm6.below hbq
            replace z0 := cell_below hbq z0
            replace z1 := cell_below hbq z1
            replace g0 := cell_below hbq g0
            replace g1 := cell_below hbq g1
            replace y0 := (hbq.frozen (p := ⟨W1.heap.size, 0, none⟩) hx5).trans y0
            replace y1 := (hbq.frozen (p := ⟨W1.heap.size, 1, none⟩) hx5).trans y1
            replace hx5 := Nat.lt_of_lt_of_le hx5 hbq.size
            clear k0 k1 l0 l1 hbq cWd cHe cHa hr6 hm6 hB6
            generalize Sort.grow (redrawn W6 dq) osq = W7 at *
            go_wp2_with fail
            go_roundw
            case rel => exact ⟨k + 1, _, ms2, q2, c2, by omega, by go_num, k2, two0 z0, two1 z1, by rw [World.frozen?_setCell, World.frozen?_setCell]; exact y0, by rw [World.frozen?_setCell, World.frozen?_setCell]; exact y1, hr7.put _ _ hqx2, hqx2, (hB7.setCell (Nat.le_refl _) _).setCell (Nat.le_refl _) _⟩
            case measure => simp [intOf]; omega
          | false =>
            go_wp2_with fail
            generalize (W4.alloc (.cells #[.int .i64 e2, .slice q2 ms2.length c2] 24)) = W5 at *
            obtain ⟨S1, S2⟩ := HS.out
            obtain ⟨s1, HB, HRow⟩ := S1 q4
            have hne : (e2 != e + 1) = false := by rw [s1]; simp
            have hwe : IntKind.i64.wrap (e + 1) = e + 1 := by rw [IntKind.wrap_i64]; omega
            have hlt : e < e2 := by omega
            have C_Fo : Hid (∀ W, RdM W q ms.length c ms → RdM W q2 ms2.length c2 ms2 → Calls Try.prog 31 #[.agg #[.int .i64 e, .slice q ms.length c], .agg #[.int .i64 e2, .slice q2 ms2.length c2]] W fun r w' => r = .returned (.bool true) ∧ Below W.heap.size W w') := fun W h1 h2 => Follows_yes e e2 q q2 ms.length ms2.length c c2 ms ms2 W h1 h2 hck k2 hlt HB HRow
            clear s1 HB HRow hlt
            clear S1 S2 HS
            go_wp2_with fail
            have k0 := cell_regrown z0
            have k1 := cell_regrown z1
            have l0 := cell_regrown g0
            have l1 := cell_regrown g1
            have cCk : ∀ dd os, Calls Try.prog 10 #[.agg #[.int .i64 e2, .slice q2 ms2.length c2]] (Sort.grow (redrawn W5 dd) os) fun e w'' => e = .returned (.int .i64 0) ∧ ∃ p : Regrown, w'' = Sort.grow (redrawn W5 p.d) p.os := fun dd os => Calls.regrown_of (C_Ck.out _ (hr5.below (below_regrown _ _ _)))
            refine wp_region_quiet_below (by kernel_rfl) (by kernel_rfl) ?_
            repeat (with_reducible refine wpQuiet_step (fun K hK => ?_); go_simp; first | (with_reducible refine hK _ ?_; clear hK K) | (rw [if_neg (by decide)]; with_reducible refine hK _ ?_; clear hK K) | (apply Exists.intro; refine ⟨fun _ => ?_, hK _ ?_⟩; (first | (go_at_call 10; with_reducible exact cCk _ _)); clear hK K))
            with_reducible refine wpQuiet_nil ?_
            intro _ hw'
            obtain ⟨⟨dq, osq⟩, hw''⟩ := hw'
            subst hw''
            have hbq := below_regrown W5 dq osq
            have hB6 := hB5.trans (hbq.mono hB5.size)
            have hr6 := hr5.below hbq
            have hm6 := hm5.below hbq
            replace z0 := cell_below hbq z0
            replace z1 := cell_below hbq z1
            replace g0 := cell_below hbq g0
            replace g1 := cell_below hbq g1
            replace y0 := (hbq.frozen (p := ⟨W1.heap.size, 0, none⟩) hx5).trans y0
            replace y1 := (hbq.frozen (p := ⟨W1.heap.size, 1, none⟩) hx5).trans y1
            replace hx5 := Nat.lt_of_lt_of_le hx5 hbq.size
            clear k0 k1 l0 l1 hbq cCk hr5 hm5 hB5
            generalize Sort.grow (redrawn W5 dq) osq = W6 at *
            go_wp2_with fail
            have k0 := cell_regrown z0
            have k1 := cell_regrown z1
            have l0 := cell_regrown g0
            have l1 := cell_regrown g1
            have cFo : ∀ dd os, Calls Try.prog 31 #[.agg #[.int .i64 e, .slice q ms.length c], .agg #[.int .i64 e2, .slice q2 ms2.length c2]] (Sort.grow (redrawn W6 dd) os) fun e w'' => e = .returned (.bool true) ∧ ∃ p : Regrown, w'' = Sort.grow (redrawn W6 p.d) p.os := fun dd os => Calls.regrown_of (C_Fo.out _ (hm6.below (below_regrown _ _ _)) (hr6.below (below_regrown _ _ _)))
            have cWd : ∀ dd os, Calls Try.prog 24 #[.agg #[.int .i64 e2, .slice q2 ms2.length c2]] (Sort.grow (redrawn W6 dd) os) fun e w'' => e = .returned (.int .u64 (Wd : Nat)) ∧ ∃ p : Regrown, w'' = Sort.grow (redrawn W6 p.d) p.os := fun dd os => Calls.regrown_of (C_Wd.out _ (hr6.below (below_regrown _ _ _)))
            have cHe : ∀ dd os, Calls Try.prog 19 #[.agg #[.int .i64 e2, .slice q2 ms2.length c2]] (Sort.grow (redrawn W6 dd) os) fun e w'' => e = .returned (.int .i64 hn2) ∧ ∃ p : Regrown, w'' = Sort.grow (redrawn W6 p.d) p.os := fun dd os => Calls.regrown_of (C_He.out _ (hr6.below (below_regrown _ _ _)))
            have cHa : ∀ dd os, Calls Try.prog 32 #[.int .u64 (Wd : Nat), .int .i64 hn2] (Sort.grow (redrawn W6 dd) os) fun e w'' => e = .returned (.bool true) ∧ ∃ p : Regrown, w'' = Sort.grow (redrawn W6 p.d) p.os := fun dd os => Calls.regrown_of (C_Ha.out _)
            refine wp_region_quiet_below (by kernel_rfl) (by kernel_rfl) ?_
            repeat (with_reducible refine wpQuiet_step (fun K hK => ?_); go_simp; first | (with_reducible refine hK _ ?_; clear hK K) | (rw [if_neg (by decide)]; with_reducible refine hK _ ?_; clear hK K) | (apply Exists.intro; refine ⟨fun _ => ?_, hK _ ?_⟩; (first | (go_at_call 31; with_reducible exact cFo _ _) | (go_at_call 24; with_reducible exact cWd _ _) | (go_at_call 19; with_reducible exact cHe _ _) | (go_at_call 32; with_reducible exact cHa _ _)); clear hK K))
            with_reducible refine wpQuiet_nil ?_
            intro _ hw'
            obtain ⟨⟨dq, osq⟩, hw''⟩ := hw'
            subst hw''
            have hbq := below_regrown W6 dq osq
            have hB7 := hB6.trans (hbq.mono hB6.size)
            have hr7 := hr6.below hbq
            have hm7 := hm6.below hbq
            replace z0 := cell_below hbq z0
            replace z1 := cell_below hbq z1
            replace g0 := cell_below hbq g0
            replace g1 := cell_below hbq g1
            replace y0 := (hbq.frozen (p := ⟨W1.heap.size, 0, none⟩) hx5).trans y0
            replace y1 := (hbq.frozen (p := ⟨W1.heap.size, 1, none⟩) hx5).trans y1
            replace hx5 := Nat.lt_of_lt_of_le hx5 hbq.size
            clear k0 k1 l0 l1 hbq cFo cWd cHe cHa hr6 hm6 hB6
            generalize Sort.grow (redrawn W6 dq) osq = W7 at *
            go_wp2_with fail
            go_roundw
            case rel => exact ⟨k + 1, _, ms2, q2, c2, by omega, by go_num, k2, two0 z0, two1 z1, by rw [World.frozen?_setCell, World.frozen?_setCell]; exact y0, by rw [World.frozen?_setCell, World.frozen?_setCell]; exact y1, hr7.put _ _ hqx2, hqx2, (hB7.setCell (Nat.le_refl _) _).setCell (Nat.le_refl _) _⟩
            case measure => simp [intOf]; omega
      · obtain rfl : k = nk := by omega
        have hki : ¬ (k : Int) < (k : Int) := by omega
        go_wp2_with fail
        refine (hA _).mono ?_
        rintro r W2 ⟨rfl, hb2⟩
        have hBB := hb1.trans (hb.mono hb1.size)
        go_wp2_with fail
        go_ret
        exact ⟨rfl, hBB.trans (hb2.mono hBB.size)⟩

end Go.Proofs.Ytnhdfojbffaifaa.M
