/-
  Own text: what is wished comes out, in plain words; the walk of the statement 'PlanWished'.
-/
import Derived.Test.YtigojnpjpagfjaaDoorVRef
namespace Go.Proofs.YtigojnpjpagfjaaDoor.M
open Go.ChangeShapes Go.WideShapes Go.ChangeAt Go.RowKit

theorem Steps.fin {al : Nat} {hs vs : List Int} {l : List Cm} : ∀ {e : Int} {ms : List Mb} {e2 : Int} {ms2 : List Mb}, Steps al hs vs e ms l e2 ms2 → nextR al hs vs e2 ms2 = none := by
  induction l with
  | nil =>
    intro e ms e2 ms2 h
    have a := Steps.out0 h
    rw [a.2.1, a.2.2]
    exact a.1
  | cons x l ih =>
    intro e ms e2 ms2 h
    have ⟨_, _, _, t⟩ := Steps.out1 h
    exact ih t

theorem Steps.epoch {al : Nat} {hs vs : List Int} {l : List Cm} : ∀ {e : Int} {ms : List Mb} {e2 : Int} {ms2 : List Mb}, Steps al hs vs e ms l e2 ms2 → chk e ms = true → e2 = e + l.length := by
  induction l with
  | nil =>
    intro e ms e2 ms2 h _
    have a := (Steps.out0 h).2.1
    clear h
    rw [a]
    simp
  | cons x l ih =>
    intro e ms e2 ms2 h hc
    have ⟨_, _, h1, t⟩ := Steps.out1 h
    clear h
    have ⟨c1, c2, _⟩ := next_less (readyA_chk hc) (readyA_lively hc) h1
    rw [ih t c1, c2, List.length_cons]
    clear h1 t
    omega

theorem nextR_parts {al : Nat} {hs vs : List Int} {e : Int} {ms : List Mb} (h : nextR al hs vs e ms = none) : deadR al e ms ms = none ∧ joinA al hs vs e ms = none := by
  unfold nextR at h
  split at h
  · cases h
  · next hd => exact ⟨hd, h⟩

/-- Nobody is left that does not live, unless nobody else has all. -/
theorem wished1 {al : Nat} {hs vs : List Int} {e : Int} {ms : List Mb} (hc : chk e ms = true) (he : e < 1099511627776) (h : nextR al hs vs e ms = none) : ∀ m ∈ ms, hasN al m.n = false → pop (thN (fun m => !m.f) 0 ms &&& al) = 0 := by
  intro m hm hd
  obtain ⟨h1, _⟩ := nextR_parts h
  rcases deadR_none h1 m hm with h2 | ⟨k, h2⟩
  · rw [hd] at h2; cases h2
  rcases Nat.eq_zero_or_pos (pop (thN (fun m => !m.f) 0 ms &&& al)) with h0 | h0
  · exact h0
  exfalso
  obtain ⟨i, hi, hb⟩ := cnt_pos 64 h0
  rw [Nat.testBit_and, thN_test (fun m => !m.f) i hi ms 0, Nat.zero_testBit, Bool.false_or, Bool.and_eq_true] at hb
  obtain ⟨x, hx, hx2⟩ := List.any_eq_true.1 hb.1
  simp only [Bool.and_eq_true, Bool.not_eq_true', beq_iff_eq] at hx2
  have hxa : hasN al x.n = true := by
    unfold hasN
    rw [hx2.2, decide_eq_true (by omega), Int.toNat_natCast, hb.2]
    rfl
  have hne : (x.n == m.n) = false := by
    cases hh : (x.n == m.n) with
    | false => rfl
    | true => rw [beq_iff_eq] at hh; rw [hh, hd] at hxa; cases hxa
  have hF : (ms.filter fun y => !(y.n == m.n)).any (fun m => !m.f) = true := List.any_eq_true.2 ⟨x, List.mem_filter.2 ⟨hx, by rw [hne]; rfl⟩, by rw [hx2.1]; rfl⟩
  unfold cutR at h2
  rw [hc] at h2
  simp only [Bool.true_eq_false, if_false] at h2
  rw [if_neg (by omega)] at h2
  have hl : ¬ (ms.filter fun y => !(y.n == m.n)).length = ms.length := fun hl => by
    have := filter_all (kp := fun y : Mb => !(y.n == m.n)) hl
    rw [← this] at hm
    have := (List.mem_filter.1 hm).2
    simp at this
  rw [if_neg hl] at h2
  have h3 := ixM_any (fun m => !m.f) (ms.filter fun y => !(y.n == m.n)) 0
  rw [hF] at h3
  have h4 := of_decide_eq_true h3
  rw [if_neg (by omega)] at h2
  cases h2

/-- No site lacks a node, unless it has no spare one, or all members stand at greater sites. -/
theorem wished2 {al : Nat} {hs vs : List Int} {e : Int} {ms : List Mb} (hc : chk e ms = true) (he : e < 1099511627776) (h : nextR al hs vs e ms = none) (hwn : thN (fun m => !m.f) 0 ms = thN (fun _ => true) 0 ms) : ∀ s : Nat, s < 3 → 0 < lackV ms (vs.getD s 0) (s : Int) → 0 ≤ rspV al hs e ms (s : Int) → (s : Int) < (ms.getD 0 .z0).s := by
  intro s hs3 hl hsp
  obtain ⟨_, h1⟩ := nextR_parts h
  unfold joinA at h1
  rw [if_pos hwn] at h1
  have hlk : (lacksL ms vs).getD s 0 = lackV ms (vs.getD s 0) (s : Int) := by
    obtain rfl | rfl | rfl : s = 0 ∨ s = 1 ∨ s = 2 := by omega
    all_goals rfl
  rcases joinsR_none h1 s hs3 with h2 | ⟨er, h2⟩
  · rw [hlk] at h2; omega
  rw [Nat.zero_add] at h2
  rw [rsp_eq hc] at hsp
  have hlt : spareW al hs ms s < 18446744073709551616 := and_lt64 (and_lt64 (homN_lt _ _ _))
  have hW0 : spareW al hs ms s ≠ 0 := fun h0 => by unfold spareV lowV at hsp; rw [if_pos h0] at hsp; omega
  obtain ⟨t1, t2⟩ := tz_spec (Nat.pos_of_ne_zero hW0) hlt
  have t3 := tz_lt (Nat.pos_of_ne_zero hW0) hlt
  have hv : spareV al hs ms s = (tz (spareW al hs ms s) : Int) := by unfold spareV lowV; rw [if_neg hW0]
  obtain ⟨b1, _, _, b4⟩ := (spareW_test hc (s : Int) _ t3).1 t1
  rw [hv] at h2
  generalize tz (spareW al hs ms s) = T at *
  by_cases hh : (s : Int) < (ms.getD 0 .z0).s
  · exact hh
  exfalso
  unfold joinR at h2
  rw [hc] at h2
  simp only [Bool.true_eq_false, if_false] at h2
  have hmb : isMb ⟨(T : Int), (s : Int), false⟩ = true := (isMb_iff _).2 ⟨by simp, by show (T : Int) < 6; omega, by simp, by show (s : Int) < 3; omega⟩
  rw [hmb] at h2
  simp only [Bool.true_eq_false, if_false] at h2
  have hnh : hasN (thN (fun _ => true) 0 ms) (T : Int) = false := by
    rw [has_plc hc]
    exact decide_eq_false (by omega)
  rw [if_neg (by rw [hnh]; decide), if_neg (by omega)] at h2
  have hbe : ¬ behM ms (s : Int) = 0 := by
    rw [behM_N]
    match ms, hc, hh with
    | [], hc, _ => have := (chk_parts hc).2.2.1; exact absurd this (Nat.lt_irrefl _)
    | a :: l, _, hh =>
      intro h0
      have h1 := behN_at (s : Int) (a :: l) (by rw [List.length_cons]; omega)
      have h5 : behN (s : Int) (a :: l) = 0 := by omega
      rw [h5] at h1
      exact hh h1
  rw [if_neg hbe] at h2
  cases h2

set_option maxRecDepth 20000 in
set_option maxHeartbeats 4000000 in
theorem walk_PlanWished (w : World) (ht : Tab w) (e : Int) (p : Option Addr) (n c : Nat) (ms : List Mb) (hr : RdM w p n c ms) (al : Nat) (hal : al < 18446744073709551616) (h0 h1 h2 h3 h4 h5 v0 v1 v2 : Int) (hv : (v0 ≤ 9223372036854775807 ∧ v1 ≤ 9223372036854775807) ∧ v2 ≤ 9223372036854775807) :
    Calls Tryd.prog 8 #[.agg #[.int .i64 e, .slice p n c], .int .u64 (al : Int), .agg #[.int .i64 h0, .int .i64 h1, .int .i64 h2, .int .i64 h3, .int .i64 h4, .int .i64 h5], .agg #[.int .i64 v0, .int .i64 v1, .int .i64 v2]] w fun r w' => r = .returned (.bool true) ∧ Below w.heap.size w w' := by
  have hb0 : Below w.heap.size w (((w.alloc (.cells #[.int .i64 e, .slice p n c] 28)).alloc (.cells #[.int .i64 h0, .int .i64 h1, .int .i64 h2, .int .i64 h3, .int .i64 h4, .int .i64 h5] 23)).alloc (.cells #[.int .i64 v0, .int .i64 v1, .int .i64 v2] 25)) := (((Below.refl _ _).alloc (Nat.le_refl _) _).alloc (by simp) _).alloc (by simp; omega) _
  have hX : At 28 (((w.alloc (.cells #[.int .i64 e, .slice p n c] 28)).alloc (.cells #[.int .i64 h0, .int .i64 h1, .int .i64 h2, .int .i64 h3, .int .i64 h4, .int .i64 h5] 23)).alloc (.cells #[.int .i64 v0, .int .i64 v1, .int .i64 v2] 25)) w.heap.size #[.int .i64 e, .slice p n c] := ((At.new 28 w _).alloc _).alloc _
  have hH : At 23 (((w.alloc (.cells #[.int .i64 e, .slice p n c] 28)).alloc (.cells #[.int .i64 h0, .int .i64 h1, .int .i64 h2, .int .i64 h3, .int .i64 h4, .int .i64 h5] 23)).alloc (.cells #[.int .i64 v0, .int .i64 v1, .int .i64 v2] 25)) (w.heap.size + 1) #[.int .i64 h0, .int .i64 h1, .int .i64 h2, .int .i64 h3, .int .i64 h4, .int .i64 h5] := At.moved (by simp) ((At.new 23 _ _).alloc _)
  have hV : At 25 (((w.alloc (.cells #[.int .i64 e, .slice p n c] 28)).alloc (.cells #[.int .i64 h0, .int .i64 h1, .int .i64 h2, .int .i64 h3, .int .i64 h4, .int .i64 h5] 23)).alloc (.cells #[.int .i64 v0, .int .i64 v1, .int .i64 v2] 25)) (w.heap.size + 2) #[.int .i64 v0, .int .i64 v1, .int .i64 v2] := At.moved (by simp) (At.new 25 _ _)
  have hr0 := hr.below hb0
  have ht0 := ht.below hb0
  have hA := fun W hx => awake_any W hx
  generalize hw : w.heap.size = b at *
  obtain ⟨x0, x1⟩ := hX.two
  obtain ⟨m0, m1, m2, m3, m4, m5⟩ := hH.six
  obtain ⟨n0, n1, n2⟩ := hV.three
  by_cases hn60 : 60 < n
  · have hni : (60 : Int) < (n : Int) := by omega
    clear hr hr0
    go_enter Tryd.func8, Tryd.ntmps8
    go_wp2_with fail
    refine (hA _ ht0).mono ?_
    rintro r w1 ⟨rfl, hb1⟩
    go_wp2_with fail
    go_ret
    exact ⟨rfl, hb0.trans (hb1.mono (by have := hb0.size; omega))⟩
  have hni : ¬ (60 : Int) < (n : Int) := by omega
  by_cases he40 : 1099511627756 < e
  · clear hr hr0
    go_enter Tryd.func8, Tryd.ntmps8
    go_wp2_with fail
    refine (hA _ ht0).mono ?_
    rintro r w1 ⟨rfl, hb1⟩
    go_wp2_with fail
    go_ret
    exact ⟨rfl, hb0.trans (hb1.mono (by have := hb0.size; omega))⟩
  have hn : n ≤ 5864062014805 := by omega
  cases hk : chk e ms with
  | false =>
    have hG := All_no e p n c ms al h0 h1 h2 h3 h4 h5 v0 v1 v2 _ hr0 hn hk
    clear hr hr0
    go_enter Tryd.func8, Tryd.ntmps8
    go_wp2_with fail
    refine hG.mono ?_
    rintro r w1 ⟨rfl, hb1⟩
    have hB1 := hb0.trans (hb1.mono (by have := hb0.size; omega))
    have hba := below_alloc w1 (.cells #[.int .i64 0, .slice none 0 0] 28)
    have hB2 := hB1.trans (hba.mono (by have := hB1.size; omega))
    have ht2 := (ht0.below hb1).below hba
    clear hG hb0 hb1 hba hB1 ht0
    go_wp2_with fail
    refine (hA _ ht2).mono ?_
    rintro r w2 ⟨rfl, hb2⟩
    go_wp2_with fail
    go_ret
    exact ⟨rfl, hB2.trans (hb2.mono (by have := hB2.size; omega))⟩
  | true =>
  cases hpc : planC [h0, h1, h2, h3, h4, h5] [v0, v1, v2] with
  | false =>
    have hG := All_bad e p n c ms al h0 h1 h2 h3 h4 h5 v0 v1 v2 _ hr0 hn hk hpc
    clear hr hr0
    go_enter Tryd.func8, Tryd.ntmps8
    go_wp2_with fail
    refine hG.mono ?_
    rintro r w1 ⟨rfl, hb1⟩
    have hB1 := hb0.trans (hb1.mono (by have := hb0.size; omega))
    have hba := below_alloc w1 (.cells #[.int .i64 0, .slice none 0 0] 28)
    have hB2 := hB1.trans (hba.mono (by have := hB1.size; omega))
    have ht2 := (ht0.below hb1).below hba
    clear hG hb0 hb1 hba hB1 ht0
    go_wp2_with fail
    refine (hA _ ht2).mono ?_
    rintro r w2 ⟨rfl, hb2⟩
    go_wp2_with fail
    go_ret
    exact ⟨rfl, hB2.trans (hb2.mono (by have := hB2.size; omega))⟩
  | true =>
    have hG := All_ok e p n c ms al h0 h1 h2 h3 h4 h5 v0 v1 v2 hv _ hal hr0 hn ht0 hk hpc
    clear hr hr0
    go_enter Tryd.func8, Tryd.ntmps8
    go_wp2_with fail
    generalize (((w.alloc (.cells #[.int .i64 e, .slice p n c] 28)).alloc (.cells #[.int .i64 h0, .int .i64 h1, .int .i64 h2, .int .i64 h3, .int .i64 h4, .int .i64 h5] 23)).alloc (.cells #[.int .i64 v0, .int .i64 v1, .int .i64 v2] 25)) = w0 at *
    refine hG.mono ?_
    rintro r w1 ⟨L, e2, ms2, q1, c1, q2, c2, rfl, hst, ⟨hL1, hL2⟩, hk2, hR1, hR2', _, hb1⟩
    have hee := hst.epoch hk
    have he2 : e2 < 1099511627776 := by omega
    have HW1 : Hid (∀ m ∈ ms2, hasN al m.n = false → pop (thN (fun m => !m.f) 0 ms2 &&& al) = 0) := wished1 hk2 he2 hst.fin
    have HW2' : Hid (thN (fun m => !m.f) 0 ms2 = thN (fun _ => true) 0 ms2 → ∀ s : Nat, s < 3 → 0 < lackV ms2 (([v0, v1, v2] : List Int).getD s 0) (s : Int) → 0 ≤ rspV al [h0, h1, h2, h3, h4, h5] e2 ms2 (s : Int) → (s : Int) < (ms2.getD 0 .z0).s) := fun hwn => wished2 hk2 he2 hst.fin hwn
    have hB1 := hb0.trans (hb1.mono (by have := hb0.size; omega))
    have hn0 := (chk_parts hk2).2.2.1
    have hn6 := (chk_parts hk2).2.2.2
    have hn2 : ms2.length ≤ 5864062014805 := by omega
    have HML : Hid (ms2.length = ms2.length) := rfl
    generalize hmn : ms2.length = mn at HML hR2' hn0 hn6 hn2 ⊢
    have HMN : Hid (ms2.length = mn) := hmn
    clear HML hmn
    have hba := below_alloc w1 (.cells #[.int .i64 e2, .slice q2 mn c2] 28)
    have hB2 := hB1.trans (hba.mono (by have := hB1.size; omega))
    have hR2 := hR2'.below hba
    have hWh := Whole_any e2 q2 mn c2 ms2 _ hR2 hn2
    have hZ := At.new 28 w1 #[.int .i64 e2, .slice q2 mn c2]
    have hH2 := (hH.below hb1).below hba
    have hV2 := (hV.below hb1).below hba
    obtain ⟨z0, z1⟩ := hZ.two
    have hWlt : thN (fun m => !m.f) 0 ms2 < 18446744073709551616 := thN_lt _ _ _ (by decide)
    clear hG hb0 hb1 hba hB1 ht0 hst hee hk2 hR1 hR2' hk hpc hX hH hV x0 x1 m0 m1 m2 m3 m4 m5 n0 n1 n2 he40
    go_wp2_with fail
    generalize (w1.alloc (.cells #[.int .i64 e2, .slice q2 mn c2] 28)) = w2 at *
    generalize w1.heap.size = g at *
    refine hWh.mono ?_
    rintro r w3 ⟨rfl, hb3⟩
    have hZ3 := hZ.below hb3
    have hH3 := hH2.below hb3
    have hV3 := hV2.below hb3
    have hR3 := hR2.below hb3
    have hB3 := hB2.trans (hb3.mono (by have := hB2.size; omega))
    obtain ⟨z0, z1⟩ := hZ3.two
    clear hWh hZ hH2 hV2 hR2 hB2 hb3
    have hbw3 := Below.refl w3.heap.size w3
    go_wp2_with fail
    go_loopw [46] (fun i wr => ∃ k : Nat, k ≤ mn ∧ i = .int .i64 k ∧ At 28 wr g #[.int .i64 e2, .slice q2 mn c2] ∧ At 23 wr (b + 1) #[.int .i64 h0, .int .i64 h1, .int .i64 h2, .int .i64 h3, .int .i64 h4, .int .i64 h5] ∧ At 25 wr (b + 2) #[.int .i64 v0, .int .i64 v1, .int .i64 v2] ∧ Below w3.heap.size w3 wr ∧ Below b w wr) (fun i _ => mn - (intOf i).toNat)
    case atStart => exact ⟨0, Nat.zero_le _, rfl, hZ3, hH3, hV3, hbw3, hB3⟩
    case round =>
      clear hZ3 hH3 hV3 hB3 z0 z1 hbw3
      obtain ⟨k, hkm, rfl, hZ, hH, hV, hbw, hb⟩ := hrel
      by_cases h : k < mn
      · obtain ⟨bb, o, rfl, hc⟩ := (hR3.below hbw).cells (by omega)
        obtain ⟨g1, g2, g3⟩ := hc k h
        have hmem := getD_mb (fs := ms2) (k := k) (by rw [HMN.out]; exact h)
        have hw1 := HW1.out _ hmem
        clear hc HW1 HW2' hmem hR3
        generalize ms2.getD k .z0 = m at *
        obtain ⟨mnn, msi, mf⟩ := m
        dsimp only at g1 g2 g3 hw1
        have hba := below_alloc wr (.cells #[.int .i64 mnn, .int .i64 msi, .bool mf] 45)
        have hB := hb.trans (hba.mono (by have := hb.size; omega))
        have hbw2 := hbw.trans (hba.mono hbw.size)
        have hZ2 := hZ.below hba
        have hH2 := hH.below hba
        have hV2 := hV.below hba
        have hHa := fun W => has_any al mnn W hal
        have hAn := fun W => and_any (thN (fun m => !m.f) 0 ms2) al W hWlt hal
        have hLe := fun W => len_any (thN (fun m => !m.f) 0 ms2 &&& al) W (and_lt64 hWlt)
        clear hba hZ hH hV hb hbw
        cases hh : hasN al mnn with
        | true =>
          rw [hh] at hHa
          clear hh hw1 hAn hLe
          go_wp2_with fail
          refine (hHa _).mono ?_
          rintro r w4 ⟨rfl, hw4⟩
          subst hw4
          go_wp2_with fail
          go_roundw
          case rel => exact ⟨k + 1, by omega, by go_num, hZ2, hH2, hV2, hbw2, hB⟩
          case measure => simp [intOf]; omega
        | false =>
          have hp0 := hw1 hh
          rw [hh] at hHa
          rw [hp0] at hLe
          generalize thN (fun m => !m.f) 0 ms2 &&& al = z2 at *
          generalize thN (fun m => !m.f) 0 ms2 = z1 at *
          clear hh hw1 hp0
          go_wp2_with fail
          refine (hHa _).mono ?_
          rintro r w4 ⟨rfl, hw4⟩
          subst hw4
          go_wp2_with fail
          refine (hAn _).mono ?_
          rintro r w5 ⟨rfl, hw5⟩
          subst hw5
          go_wp2_with fail
          refine (hLe _).mono ?_
          rintro r w6 ⟨rfl, hw6⟩
          subst hw6
          go_wp2_with fail
          go_roundw
          case rel => exact ⟨k + 1, by omega, by go_num, hZ2, hH2, hV2, hbw2, hB⟩
          case measure => simp [intOf]; omega
      · have hNo := Nodes_any e2 q2 mn c2 ms2 wr (hR3.below hbw) hn2
        obtain ⟨z0, z1⟩ := hZ.two
        obtain ⟨w7, hw7⟩ : ∃ x, x = wr := ⟨_, rfl⟩
        rw [← hw7] at hNo hZ hH hV hbw hb z0 z1 ⊢
        clear hw7 HW1
        by_cases hwn : thN (fun m => !m.f) 0 ms2 = thN (fun _ => true) 0 ms2
        · have HW2 : Hid (∀ s : Nat, s < 3 → 0 < lackV ms2 (([v0, v1, v2] : List Int).getD s 0) (s : Int) → 0 ≤ rspV al [h0, h1, h2, h3, h4, h5] e2 ms2 (s : Int) → (s : Int) < (ms2.getD 0 .z0).s) := HW2'.out hwn
          rw [← hwn] at hNo
          generalize thN (fun m => !m.f) 0 ms2 = z1' at *
          clear hwn HW2'
          go_wp2_with fail
          refine hNo.mono ?_
          rintro r w8 ⟨rfl, hb8⟩
          have hZ8 := hZ.below hb8
          have hH8 := hH.below hb8
          have hV8 := hV.below hb8
          have hbw8 := hbw.trans (hb8.mono hbw.size)
          have hB8 := hb.trans (hb8.mono (by have := hb.size; omega))
          have hLk := pLacks_any e2 q2 mn c2 ms2 v0 v1 v2 hv w8 (hR3.below hbw8) hn2
          obtain ⟨l0, HO0⟩ : ∃ x, Hid (lackV ms2 v0 0 = x) := ⟨_, rfl⟩
          obtain ⟨l1, HO1⟩ : ∃ x, Hid (lackV ms2 v1 1 = x) := ⟨_, rfl⟩
          obtain ⟨l2, HO2⟩ : ∃ x, Hid (lackV ms2 v2 2 = x) := ⟨_, rfl⟩
          rw [HO0.out, HO1.out, HO2.out] at hLk
          obtain ⟨z0, z1⟩ := hZ8.two
          obtain ⟨n0, n1, n2⟩ := hV8.three
          have hiL := fun k hk W => idxW l0 l1 l2 k hk W
          clear hNo hZ hH hV hbw hb hb8
          go_wp2_with fail
          refine hLk.mono ?_
          rintro r w9 ⟨rfl, hb9⟩
          have hZ9 := hZ8.below hb9
          have hH9 := hH8.below hb9
          have hbw9 := hbw8.trans (hb9.mono hbw8.size)
          have hB9 := hB8.trans (hb9.mono (by have := hB8.size; omega))
          have hR2 := hR3
          have hM0 : ∀ W, Below w3.heap.size w3 W → ∃ bb o, q2 = some ⟨bb, o, none⟩ ∧ W.cell? ⟨bb, o + 1, none⟩ = some (.int .i64 (ms2.getD 0 .z0).s) := fun W hW => by
            obtain ⟨bb, o, e9, hc⟩ := (hR3.below hW).cells (by omega)
            have := (hc 0 (by omega)).2.1
            rw [Nat.zero_mul, Nat.add_zero] at this
            exact ⟨bb, o, e9, this⟩
          clear hLk hZ8 hH8 hV8 hbw8 hB8 hb9 n0 n1 n2 z0 z1
          go_wp2_with fail
          go_loopw [71] (fun i wr => ∃ k : Nat, k ≤ 3 ∧ i = .int .i64 k ∧ At 28 wr g #[.int .i64 e2, .slice q2 mn c2] ∧ At 23 wr (b + 1) #[.int .i64 h0, .int .i64 h1, .int .i64 h2, .int .i64 h3, .int .i64 h4, .int .i64 h5] ∧ Below w3.heap.size w3 wr ∧ Below b w wr) (fun i _ => 3 - (intOf i).toNat)
          case atStart => exact ⟨0, by omega, rfl, hZ9, hH9, hbw9, hB9⟩
          case round =>
            clear hZ9 hH9 hbw9 hB9
            obtain ⟨k, hkm, rfl, hZ, hH, hbw, hb⟩ := hrel
            obtain ⟨z0, z1⟩ := hZ.two
            obtain ⟨m0, m1, m2, m3, m4, m5⟩ := hH.six
            by_cases hk3 : k < 3
            · obtain rfl | rfl | rfl : k = 0 ∨ k = 1 ∨ k = 2 := by omega
              · have hi : ∀ W, (Instr.index 25 (.agg #[.int .i64 l0, .int .i64 l1, .int .i64 l2]) (.int .i64 0)).run Tryd.prog W = .ok (.int .i64 l0) W := fun W => hiL 0 (by decide) W
                have hSp := rSpare_any e2 q2 mn c2 ms2 al h0 h1 h2 h3 h4 h5 0 wr hal (hR2.below hbw) hn2
                obtain ⟨sp, HSP⟩ : ∃ x, Hid (rspV al [h0, h1, h2, h3, h4, h5] e2 ms2 0 = x) := ⟨_, rfl⟩
                rw [HSP.out] at hSp
                have hw2 := HW2.out 0 (by decide)
                have hlk : lackV ms2 (([v0, v1, v2] : List Int).getD 0 0) ((0 : Nat) : Int) = l0 := HO0.out
                rw [hlk, show ((0 : Nat) : Int) = 0 from rfl, HSP.out] at hw2
                by_cases hl0 : 0 < l0
                · by_cases hsp : 0 ≤ sp
                  · have hms := hw2 hl0 hsp
                    obtain ⟨bb, o, hq2, y1⟩ := hM0 wr hbw
                    subst hq2
                    have hno : ¬ (ms2.getD 0 .z0).s ≤ 0 := by omega
                    generalize (ms2.getD 0 .z0).s = s0 at *
                    have hnoD : decide (s0 ≤ 0) = false := decide_eq_false hno
                    have hmz : ((mn : Int) == 0) = false := by simp; omega
                    clear hno
                    clear hw2 hms HW2 hiL HSP hlk hM0
                    go_wp2_with fail
                    refine hSp.mono ?_
                    rintro r w4 ⟨rfl, hb4⟩
                    have hB4 := hb.trans (hb4.mono (by have := hb.size; omega))
                    obtain ⟨z0, z1⟩ := (hZ.below hb4).two
                    have y1' := cell_bel0 hb4 y1
                    clear hSp y1
                    go_wp2_with fail
                    go_roundw
                    case rel => exact ⟨1, by omega, rfl, hZ.below hb4, hH.below hb4, hbw.trans (hb4.mono hbw.size), hB4⟩
                    case measure => simp [intOf]
                  · clear hw2 HW2 hiL HSP hlk hM0
                    go_wp2_with fail
                    refine hSp.mono ?_
                    rintro r w4 ⟨rfl, hb4⟩
                    have hB4 := hb.trans (hb4.mono (by have := hb.size; omega))
                    clear hSp
                    go_wp2_with fail
                    go_roundw
                    case rel => exact ⟨1, by omega, rfl, hZ.below hb4, hH.below hb4, hbw.trans (hb4.mono hbw.size), hB4⟩
                    case measure => simp [intOf]
                · clear hw2 HW2 hiL HSP hlk hM0 hSp
                  go_wp2_with fail
                  go_roundw
                  case rel => exact ⟨1, by omega, rfl, hZ, hH, hbw, hb⟩
                  case measure => simp [intOf]
              · have hi : ∀ W, (Instr.index 25 (.agg #[.int .i64 l0, .int .i64 l1, .int .i64 l2]) (.int .i64 1)).run Tryd.prog W = .ok (.int .i64 l1) W := fun W => hiL 1 (by decide) W
                have hSp := rSpare_any e2 q2 mn c2 ms2 al h0 h1 h2 h3 h4 h5 1 wr hal (hR2.below hbw) hn2
                obtain ⟨sp, HSP⟩ : ∃ x, Hid (rspV al [h0, h1, h2, h3, h4, h5] e2 ms2 1 = x) := ⟨_, rfl⟩
                rw [HSP.out] at hSp
                have hw2 := HW2.out 1 (by decide)
                have hlk : lackV ms2 (([v0, v1, v2] : List Int).getD 1 0) ((1 : Nat) : Int) = l1 := HO1.out
                rw [hlk, show ((1 : Nat) : Int) = 1 from rfl, HSP.out] at hw2
                by_cases hl0 : 0 < l1
                · by_cases hsp : 0 ≤ sp
                  · have hms := hw2 hl0 hsp
                    obtain ⟨bb, o, hq2, y1⟩ := hM0 wr hbw
                    subst hq2
                    have hno : ¬ (ms2.getD 0 .z0).s ≤ 1 := by omega
                    generalize (ms2.getD 0 .z0).s = s0 at *
                    have hnoD : decide (s0 ≤ 1) = false := decide_eq_false hno
                    have hmz : ((mn : Int) == 0) = false := by simp; omega
                    clear hno
                    clear hw2 hms HW2 hiL HSP hlk hM0
                    go_wp2_with fail
                    refine hSp.mono ?_
                    rintro r w4 ⟨rfl, hb4⟩
                    have hB4 := hb.trans (hb4.mono (by have := hb.size; omega))
                    obtain ⟨z0, z1⟩ := (hZ.below hb4).two
                    have y1' := cell_bel0 hb4 y1
                    clear hSp y1
                    go_wp2_with fail
                    go_roundw
                    case rel => exact ⟨2, by omega, rfl, hZ.below hb4, hH.below hb4, hbw.trans (hb4.mono hbw.size), hB4⟩
                    case measure => simp [intOf]
                  · clear hw2 HW2 hiL HSP hlk hM0
                    go_wp2_with fail
                    refine hSp.mono ?_
                    rintro r w4 ⟨rfl, hb4⟩
                    have hB4 := hb.trans (hb4.mono (by have := hb.size; omega))
                    clear hSp
                    go_wp2_with fail
                    go_roundw
                    case rel => exact ⟨2, by omega, rfl, hZ.below hb4, hH.below hb4, hbw.trans (hb4.mono hbw.size), hB4⟩
                    case measure => simp [intOf]
                · clear hw2 HW2 hiL HSP hlk hM0 hSp
                  go_wp2_with fail
                  go_roundw
                  case rel => exact ⟨2, by omega, rfl, hZ, hH, hbw, hb⟩
                  case measure => simp [intOf]
              · have hi : ∀ W, (Instr.index 25 (.agg #[.int .i64 l0, .int .i64 l1, .int .i64 l2]) (.int .i64 2)).run Tryd.prog W = .ok (.int .i64 l2) W := fun W => hiL 2 (by decide) W
                have hSp := rSpare_any e2 q2 mn c2 ms2 al h0 h1 h2 h3 h4 h5 2 wr hal (hR2.below hbw) hn2
                obtain ⟨sp, HSP⟩ : ∃ x, Hid (rspV al [h0, h1, h2, h3, h4, h5] e2 ms2 2 = x) := ⟨_, rfl⟩
                rw [HSP.out] at hSp
                have hw2 := HW2.out 2 (by decide)
                have hlk : lackV ms2 (([v0, v1, v2] : List Int).getD 2 0) ((2 : Nat) : Int) = l2 := HO2.out
                rw [hlk, show ((2 : Nat) : Int) = 2 from rfl, HSP.out] at hw2
                by_cases hl0 : 0 < l2
                · by_cases hsp : 0 ≤ sp
                  · have hms := hw2 hl0 hsp
                    obtain ⟨bb, o, hq2, y1⟩ := hM0 wr hbw
                    subst hq2
                    have hno : ¬ (ms2.getD 0 .z0).s ≤ 2 := by omega
                    generalize (ms2.getD 0 .z0).s = s0 at *
                    have hnoD : decide (s0 ≤ 2) = false := decide_eq_false hno
                    have hmz : ((mn : Int) == 0) = false := by simp; omega
                    clear hno
                    clear hw2 hms HW2 hiL HSP hlk hM0
                    go_wp2_with fail
                    refine hSp.mono ?_
                    rintro r w4 ⟨rfl, hb4⟩
                    have hB4 := hb.trans (hb4.mono (by have := hb.size; omega))
                    obtain ⟨z0, z1⟩ := (hZ.below hb4).two
                    have y1' := cell_bel0 hb4 y1
                    clear hSp y1
                    go_wp2_with fail
                    go_roundw
                    case rel => exact ⟨3, by omega, rfl, hZ.below hb4, hH.below hb4, hbw.trans (hb4.mono hbw.size), hB4⟩
                    case measure => simp [intOf]
                  · clear hw2 HW2 hiL HSP hlk hM0
                    go_wp2_with fail
                    refine hSp.mono ?_
                    rintro r w4 ⟨rfl, hb4⟩
                    have hB4 := hb.trans (hb4.mono (by have := hb.size; omega))
                    clear hSp
                    go_wp2_with fail
                    go_roundw
                    case rel => exact ⟨3, by omega, rfl, hZ.below hb4, hH.below hb4, hbw.trans (hb4.mono hbw.size), hB4⟩
                    case measure => simp [intOf]
                · clear hw2 HW2 hiL HSP hlk hM0 hSp
                  go_wp2_with fail
                  go_roundw
                  case rel => exact ⟨3, by omega, rfl, hZ, hH, hbw, hb⟩
                  case measure => simp [intOf]
            · clear HW2 hiL HO0 HO1 HO2
              have ht9 := ht.below (by rw [hw]; exact hb)
              go_wp2_with fail
              refine (hA _ ht9).mono ?_
              rintro r w10 ⟨rfl, hb10⟩
              go_wp2_with fail
              go_ret
              exact ⟨rfl, hb.trans (hb10.mono (by have := hb.size; omega))⟩
        · have hne : (((thN (fun m => !m.f) 0 ms2 : Nat) : Int) != ((thN (fun _ => true) 0 ms2 : Nat) : Int)) = true := by simp; omega
          generalize thN (fun _ => true) 0 ms2 = z1' at *
          generalize thN (fun m => !m.f) 0 ms2 = z2' at *
          clear hwn HW2'
          go_wp2_with fail
          refine hNo.mono ?_
          rintro r w8 ⟨rfl, hb8⟩
          have hB8 := hb.trans (hb8.mono (by have := hb.size; omega))
          have ht8 := ht.below (by rw [hw]; exact hB8)
          clear hNo
          go_wp2_with fail
          refine (hA _ ht8).mono ?_
          rintro r w10 ⟨rfl, hb10⟩
          go_wp2_with fail
          go_ret
          exact ⟨rfl, hB8.trans (hb10.mono (by have := hB8.size; omega))⟩

end Go.Proofs.YtigojnpjpagfjaaDoor.M
