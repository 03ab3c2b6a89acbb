/-
  Own text: where a key stands in what was seen, and its version: contracts of find and of Floor.
-/
import Derived.Test.YtphdbpljgilcgaaDoorSRight
namespace Go.Proofs.YtphdbpljgilcgaaDoor.M
open Go.ChangeShapes Go.WideShapes Go.ChangeAt Go.RowKit Go.Proofs
set_option linter.unusedSimpArgs false

theorem box8 (w : World) (t : TypeId) (n : Nat) : (w.alloc (.cells #[.int .u8 (bt (n) 0), .int .u8 (bt (n) 1), .int .u8 (bt (n) 2), .int .u8 (bt (n) 3), .int .u8 (bt (n) 4), .int .u8 (bt (n) 5), .int .u8 (bt (n) 6), .int .u8 (bt (n) 7)] t)).cell? ⟨w.heap.size, 0, none⟩ = some (.int .u8 (bt n 0)) ∧ (w.alloc (.cells #[.int .u8 (bt (n) 0), .int .u8 (bt (n) 1), .int .u8 (bt (n) 2), .int .u8 (bt (n) 3), .int .u8 (bt (n) 4), .int .u8 (bt (n) 5), .int .u8 (bt (n) 6), .int .u8 (bt (n) 7)] t)).cell? ⟨w.heap.size, 1, none⟩ = some (.int .u8 (bt n 1)) ∧ (w.alloc (.cells #[.int .u8 (bt (n) 0), .int .u8 (bt (n) 1), .int .u8 (bt (n) 2), .int .u8 (bt (n) 3), .int .u8 (bt (n) 4), .int .u8 (bt (n) 5), .int .u8 (bt (n) 6), .int .u8 (bt (n) 7)] t)).cell? ⟨w.heap.size, 2, none⟩ = some (.int .u8 (bt n 2)) ∧ (w.alloc (.cells #[.int .u8 (bt (n) 0), .int .u8 (bt (n) 1), .int .u8 (bt (n) 2), .int .u8 (bt (n) 3), .int .u8 (bt (n) 4), .int .u8 (bt (n) 5), .int .u8 (bt (n) 6), .int .u8 (bt (n) 7)] t)).cell? ⟨w.heap.size, 3, none⟩ = some (.int .u8 (bt n 3)) ∧ (w.alloc (.cells #[.int .u8 (bt (n) 0), .int .u8 (bt (n) 1), .int .u8 (bt (n) 2), .int .u8 (bt (n) 3), .int .u8 (bt (n) 4), .int .u8 (bt (n) 5), .int .u8 (bt (n) 6), .int .u8 (bt (n) 7)] t)).cell? ⟨w.heap.size, 4, none⟩ = some (.int .u8 (bt n 4)) ∧ (w.alloc (.cells #[.int .u8 (bt (n) 0), .int .u8 (bt (n) 1), .int .u8 (bt (n) 2), .int .u8 (bt (n) 3), .int .u8 (bt (n) 4), .int .u8 (bt (n) 5), .int .u8 (bt (n) 6), .int .u8 (bt (n) 7)] t)).cell? ⟨w.heap.size, 5, none⟩ = some (.int .u8 (bt n 5)) ∧ (w.alloc (.cells #[.int .u8 (bt (n) 0), .int .u8 (bt (n) 1), .int .u8 (bt (n) 2), .int .u8 (bt (n) 3), .int .u8 (bt (n) 4), .int .u8 (bt (n) 5), .int .u8 (bt (n) 6), .int .u8 (bt (n) 7)] t)).cell? ⟨w.heap.size, 6, none⟩ = some (.int .u8 (bt n 6)) ∧ (w.alloc (.cells #[.int .u8 (bt (n) 0), .int .u8 (bt (n) 1), .int .u8 (bt (n) 2), .int .u8 (bt (n) 3), .int .u8 (bt (n) 4), .int .u8 (bt (n) 5), .int .u8 (bt (n) 6), .int .u8 (bt (n) 7)] t)).cell? ⟨w.heap.size, 7, none⟩ = some (.int .u8 (bt n 7)) := by
  refine ⟨?_, ?_, ?_, ?_, ?_, ?_, ?_, ?_⟩ <;> simp

theorem ret_two {a b : Int} {c d : Bool} (h : a = b) (k : c = d) : Ending.returned (.tuple #[.int .i64 a, .bool c]) = .returned (.tuple #[.int .i64 b, .bool d]) := by rw [h, k]

set_option maxRecDepth 20000 in
set_option maxHeartbeats 2000000 in
theorem find_any (p : Option Addr) (n c : Nat) (L : List Sn) (q : Nat) (w : World) (hr : RdM w p n c L) (hf : Fit L) (hq : q < 18446744073709551616) (hn : n ≤ 1099511627776) :
    Calls Tryd.prog 22 #[.slice p n c, .agg #[.int .u8 (bt (q) 0), .int .u8 (bt (q) 1), .int .u8 (bt (q) 2), .int .u8 (bt (q) 3), .int .u8 (bt (q) 4), .int .u8 (bt (q) 5), .int .u8 (bt (q) 6), .int .u8 (bt (q) 7)]] w fun e w' => e = .returned (.tuple #[.int .i64 (fnd L q), .bool (isA L q)]) ∧ Below w.heap.size w w' := by
  have hl := hr.len
  have hN := fun (m : Nat) (W : World) (h : m < 18446744073709551616) => number8 m h W
  have hE := fun (m : Nat) (h : m < 18446744073709551616) (W : World) => eql_keys m q h hq W
  have hb0 := below_alloc w (.cells #[.int .u8 (bt (q) 0), .int .u8 (bt (q) 1), .int .u8 (bt (q) 2), .int .u8 (bt (q) 3), .int .u8 (bt (q) 4), .int .u8 (bt (q) 5), .int .u8 (bt (q) 6), .int .u8 (bt (q) 7)] 34)
  have hr0 := hr.below hb0
  have hs0 : (w.alloc (.cells #[.int .u8 (bt (q) 0), .int .u8 (bt (q) 1), .int .u8 (bt (q) 2), .int .u8 (bt (q) 3), .int .u8 (bt (q) 4), .int .u8 (bt (q) 5), .int .u8 (bt (q) 6), .int .u8 (bt (q) 7)] 34)).heap.size = w.heap.size + 1 := by simp
  have hbx := box8 w 34 q
  clear hr
  go_enter Tryd.func22, Tryd.ntmps22
  go_wp2_with fail
  generalize hV0 : (w.alloc (.cells #[.int .u8 (bt (q) 0), .int .u8 (bt (q) 1), .int .u8 (bt (q) 2), .int .u8 (bt (q) 3), .int .u8 (bt (q) 4), .int .u8 (bt (q) 5), .int .u8 (bt (q) 6), .int .u8 (bt (q) 7)] 34)) = V0 at *
  clear hV0
  go_loopw [10] (fun i wr => ∃ k : Nat, k ≤ n ∧ i = .int .i64 k ∧ Hid (∀ j, j < k → (L.getD j .z0).n < q) ∧ Below V0.heap.size V0 wr) (fun i _ => n - (intOf i).toNat)
  case atStart => exact ⟨0, Nat.zero_le _, rfl, (fun j hj => absurd hj (Nat.not_lt_zero _)), Below.refl _ _⟩
  case round =>
    obtain ⟨k, hk, rfl, HR, hb⟩ := hrel
    by_cases h : k < n
    · obtain ⟨b, o, rfl, hc⟩ := (hr0.below hb).cells (by omega)
      obtain ⟨x0, x1, x2, x3, x4, x5, x6, x7, x8⟩ := hc k h
      have hfk := hf.get k
      have hk1 : (k : Int) < (n : Int) := by omega
      generalize hkn : (L.getD k .z0).n = kn at x0 x1 x2 x3 x4 x5 x6 x7 hfk
      have HN : Hid ((L.getD k .z0).n = kn) := hkn
      clear hkn
      generalize (L.getD k .z0).v = kv at x8
      obtain ⟨y0, y1, y2, y3, y4, y5, y6, y7, y8⟩ := box9 wr 36 kn kv
      have hbV := hb.trans ((below_alloc wr (.cells #[.int .u8 (bt (kn) 0), .int .u8 (bt (kn) 1), .int .u8 (bt (kn) 2), .int .u8 (bt (kn) 3), .int .u8 (bt (kn) 4), .int .u8 (bt (kn) 5), .int .u8 (bt (kn) 6), .int .u8 (bt (kn) 7), .int .i64 kv] 36)).mono hb.size)
      obtain ⟨b0, b1, b2, b3, b4, b5, b6, b7⟩ := hbx
      have hgw : w.heap.size < V0.heap.size := by omega
      have a0 := (hbV.cell (p := ⟨w.heap.size, 0, none⟩) hgw).trans b0
      have a1 := (hbV.cell (p := ⟨w.heap.size, 1, none⟩) hgw).trans b1
      have a2 := (hbV.cell (p := ⟨w.heap.size, 2, none⟩) hgw).trans b2
      have a3 := (hbV.cell (p := ⟨w.heap.size, 3, none⟩) hgw).trans b3
      have a4 := (hbV.cell (p := ⟨w.heap.size, 4, none⟩) hgw).trans b4
      have a5 := (hbV.cell (p := ⟨w.heap.size, 5, none⟩) hgw).trans b5
      have a6 := (hbV.cell (p := ⟨w.heap.size, 6, none⟩) hgw).trans b6
      have a7 := (hbV.cell (p := ⟨w.heap.size, 7, none⟩) hgw).trans b7
      have hE2 := hE kn hfk
      have HE : Hid (isA L q = isA L q) := rfl
      clear hc hr0 b0 b1 b2 b3 b4 b5 b6 b7 HE hE
      go_wp2_with fail
      generalize (wr.alloc (.cells #[.int .u8 (bt (kn) 0), .int .u8 (bt (kn) 1), .int .u8 (bt (kn) 2), .int .u8 (bt (kn) 3), .int .u8 (bt (kn) 4), .int .u8 (bt (kn) 5), .int .u8 (bt (kn) 6), .int .u8 (bt (kn) 7), .int .i64 kv] 36)) = V at *
      have k0 := cell_regrown y0
      have k1 := cell_regrown y1
      have k2 := cell_regrown y2
      have k3 := cell_regrown y3
      have k4 := cell_regrown y4
      have k5 := cell_regrown y5
      have k6 := cell_regrown y6
      have k7 := cell_regrown y7
      have m0 := cell_regrown a0
      have m1 := cell_regrown a1
      have m2 := cell_regrown a2
      have m3 := cell_regrown a3
      have m4 := cell_regrown a4
      have m5 := cell_regrown a5
      have m6 := cell_regrown a6
      have m7 := cell_regrown a7
      have c1 := fun d os => Calls.regrown_of (hN kn (Sort.grow (redrawn V d) os) hfk)
      have c2 := fun d os => Calls.regrown_of (hN q (Sort.grow (redrawn V d) os) hq)
      clear x0 x1 x2 x3 x4 x5 x6 x7 x8 hN
      by_cases hge : q ≤ kn
      · have hgi : (q : Int) ≤ (kn : Int) := by omega
        refine wp_region_quiet_below (by kernel_rfl) (by kernel_rfl) ?_
        repeat (with_reducible refine wpQuiet_step (fun K hK => ?_); go_simp; first | (with_reducible refine hK _ ?_; clear hK K) | (rw [if_neg (by decide)]; with_reducible refine hK _ ?_; clear hK K) | (apply Exists.intro; refine ⟨fun _ => ?_, hK _ ?_⟩; (first | (go_at_call 14; first | with_reducible exact c1 _ _ | with_reducible exact c2 _ _)); clear hK K))
        with_reducible refine wpQuiet_nil ?_
        intro _ hw'
        obtain ⟨⟨dq, osq⟩, hw''⟩ := hw'
        subst hw''
        have hb6 := hbV.trans ((below_regrown V dq osq).mono hbV.size)
        have z0 := k0 dq osq
        have n0 := m0 dq osq
        have z1 := k1 dq osq
        have n1 := m1 dq osq
        have z2 := k2 dq osq
        have n2 := m2 dq osq
        have z3 := k3 dq osq
        have n3 := m3 dq osq
        have z4 := k4 dq osq
        have n4 := m4 dq osq
        have z5 := k5 dq osq
        have n5 := m5 dq osq
        have z6 := k6 dq osq
        have n6 := m6 dq osq
        have z7 := k7 dq osq
        have n7 := m7 dq osq
        clear k0 k1 k2 k3 k4 k5 k6 k7 m0 m1 m2 m3 m4 m5 m6 m7 c1 c2 y0 y1 y2 y3 y4 y5 y6 y7 y8 a0 a1 a2 a3 a4 a5 a6 a7
        generalize (Sort.grow (redrawn V dq) osq) = W6 at *
        have k0 := cell_regrown z0
        have k1 := cell_regrown z1
        have k2 := cell_regrown z2
        have k3 := cell_regrown z3
        have k4 := cell_regrown z4
        have k5 := cell_regrown z5
        have k6 := cell_regrown z6
        have k7 := cell_regrown z7
        have m0 := cell_regrown n0
        have m1 := cell_regrown n1
        have m2 := cell_regrown n2
        have m3 := cell_regrown n3
        have m4 := cell_regrown n4
        have m5 := cell_regrown n5
        have m6 := cell_regrown n6
        have m7 := cell_regrown n7
        have HA : Hid (fnd L q = k ∧ isA L q = decide (kn = q)) := by
          have h1 := fnd_at L q k (by omega) HR.out (fun _ => by rw [HN.out]; exact hge)
          rw [HN.out, decide_eq_true (show k < L.length by omega), Bool.true_and] at h1
          exact h1
        clear HN HR hge
        go_wp2_with fail
        refine wp_region_quiet_below (by kernel_rfl) (by kernel_rfl) ?_
        repeat (with_reducible refine wpQuiet_step (fun K hK => ?_); go_simp; first | (with_reducible refine hK _ ?_; clear hK K) | (rw [if_neg (by decide)]; with_reducible refine hK _ ?_; clear hK K))
        with_reducible refine wpQuiet_nil ?_
        intro _ hw'
        obtain ⟨⟨dq, osq⟩, hw''⟩ := hw'
        subst hw''
        have hb7 := hb6.trans ((below_regrown W6 dq osq).mono hb6.size)
        go_wp2_with fail
        go_ret2
        exact ⟨ret_two (by rw [HA.out.1]) HA.out.2.symm, hb0.trans (hb7.mono (by omega))⟩
      · have hgi : ¬ (q : Int) ≤ (kn : Int) := by omega
        refine wp_region_quiet_below (by kernel_rfl) (by kernel_rfl) ?_
        repeat (with_reducible refine wpQuiet_step (fun K hK => ?_); go_simp; first | (with_reducible refine hK _ ?_; clear hK K) | (rw [if_neg (by decide)]; with_reducible refine hK _ ?_; clear hK K) | (apply Exists.intro; refine ⟨fun _ => ?_, hK _ ?_⟩; (first | (go_at_call 14; first | with_reducible exact c1 _ _ | with_reducible exact c2 _ _)); clear hK K))
        with_reducible refine wpQuiet_nil ?_
        intro _ hw'
        obtain ⟨⟨dq, osq⟩, hw''⟩ := hw'
        subst hw''
        have hb6 := hbV.trans ((below_regrown V dq osq).mono hbV.size)
        clear k0 k1 k2 k3 k4 k5 k6 k7 m0 m1 m2 m3 m4 m5 m6 m7 c1 c2 y0 y1 y2 y3 y4 y5 y6 y7 y8 a0 a1 a2 a3 a4 a5 a6 a7
        generalize (Sort.grow (redrawn V dq) osq) = W6 at *
        go_wp2_with fail
        go_roundw
        case rel =>
          refine ⟨k + 1, by omega, by go_num, ?_, hb6⟩
          intro j hj
          rcases Nat.eq_or_lt_of_le (Nat.le_of_lt_succ hj) with rfl | h2
          · rw [HN.out]; omega
          · exact HR.out j h2
        case measure => simp [intOf]; omega
    · obtain rfl : k = n := by omega
      have HA : Hid (fnd L q = k ∧ isA L q = false) := by
        have h1 := fnd_at L q k (by omega) HR.out (fun h => by omega)
        rw [decide_eq_false (show ¬ k < L.length by omega), Bool.false_and] at h1
        exact h1
      clear hr0 HR hN hE
      go_wp2_with fail
      go_ret2
      exact ⟨ret_two (by rw [HA.out.1]) HA.out.2.symm, hb0.trans (hb.mono (by omega))⟩

/-- What Floor tells. -/
def floorL (L : List Sn) (q : Nat) : Int := if (isA L q && decide (rightL L = 0)) = true then (L.getD (fnd L q) .z0).v else 0

set_option maxRecDepth 20000 in
set_option maxHeartbeats 2000000 in
theorem floor_any (p : Option Addr) (n c : Nat) (L : List Sn) (q : Nat) (w : World) (hr : RdM w p n c L) (hf : Fit L) (hq : q < 18446744073709551616) (hn : n ≤ 1099511627776) (hT : Tabs w) :
    Calls Tryd.prog 12 #[.slice p n c, .agg #[.int .u8 (bt (q) 0), .int .u8 (bt (q) 1), .int .u8 (bt (q) 2), .int .u8 (bt (q) 3), .int .u8 (bt (q) 4), .int .u8 (bt (q) 5), .int .u8 (bt (q) 6), .int .u8 (bt (q) 7)]] w fun e w' => e = .returned (.int .i64 (floorL L q)) ∧ Below w.heap.size w w' := by
  have hl := hr.len
  have hb0 := below_alloc w (.cells #[.int .u8 (bt (q) 0), .int .u8 (bt (q) 1), .int .u8 (bt (q) 2), .int .u8 (bt (q) 3), .int .u8 (bt (q) 4), .int .u8 (bt (q) 5), .int .u8 (bt (q) 6), .int .u8 (bt (q) 7)] 34)
  have hr0 := hr.below hb0
  have hF := find_any p n c L q _ hr0 hf hq hn
  have hR := fun W (h : RdM W p n c L) (h2 : Tabs W) => right_any p n c L W h hf hn h2
  obtain ⟨b0, b1, b2, b3, b4, b5, b6, b7⟩ := box8 w 34 q
  clear hr
  by_cases hA : isA L q = true
  · have hlt := isA_lt L q hA
    have hfi : ((fnd L q : Nat) : Int) < (n : Int) := by omega
    by_cases hZ : rightL L = 0
    · have HF : Hid ((L.getD (fnd L q) .z0).v = floorL L q) := by unfold Hid floorL; rw [if_pos (by rw [hA, decide_eq_true hZ]; rfl)]
      rw [hA] at hF
      rw [hZ] at hR
      have hfn : fnd L q < n := by omega
      clear hA hlt hZ
      generalize fnd L q = t at *
      go_enter Tryd.func12, Tryd.ntmps12
      go_wp2_with fail
      refine hF.mono ?_
      rintro e w1 ⟨rfl, hb1⟩
      have hr1 := hr0.below hb1
      have hbb := hb0.trans (hb1.mono hb0.size)
      clear hF b0 b1 b2 b3 b4 b5 b6 b7
      go_wp2_with fail
      refine (hR _ hr1 (hT.up hbb)).mono ?_
      rintro e w2 ⟨rfl, hb2⟩
      obtain ⟨b, o, rfl, hc⟩ := (hr1.below hb2).cells (by omega)
      obtain ⟨x0, x1, x2, x3, x4, x5, x6, x7, x8⟩ := hc t hfn
      clear hc hR hr1 hr0
      generalize (L.getD t .z0).v = fv at *
      go_wp2_with fail
      go_ret
      exact ⟨ret_int HF.out, hbb.trans (hb2.mono hbb.size)⟩
    · have HF : Hid (0 = floorL L q) := by unfold Hid floorL; rw [if_neg (by rw [decide_eq_false hZ]; simp)]
      have hZ2 : (rightL L != 0) = true := by simp [hZ]
      rw [hA] at hF
      clear hA hlt hZ
      generalize fnd L q = t at *
      generalize rightL L = z at *
      go_enter Tryd.func12, Tryd.ntmps12
      go_wp2_with fail
      refine hF.mono ?_
      rintro e w1 ⟨rfl, hb1⟩
      have hr1 := hr0.below hb1
      have hbb := hb0.trans (hb1.mono hb0.size)
      clear hF b0 b1 b2 b3 b4 b5 b6 b7
      go_wp2_with fail
      refine (hR _ hr1 (hT.up hbb)).mono ?_
      rintro e w2 ⟨rfl, hb2⟩
      clear hR hr1 hr0
      go_wp2_with fail
      go_ret
      exact ⟨ret_int HF.out, hbb.trans (hb2.mono hbb.size)⟩
  · have hA2 : isA L q = false := by simpa using hA
    have HF : Hid (0 = floorL L q) := by unfold Hid floorL; rw [if_neg (by rw [hA2]; simp)]
    rw [hA2] at hF
    clear hA hA2 hR
    generalize fnd L q = t at *
    go_enter Tryd.func12, Tryd.ntmps12
    go_wp2_with fail
    refine hF.mono ?_
    rintro e w1 ⟨rfl, hb1⟩
    have hbb := hb0.trans (hb1.mono hb0.size)
    clear hF hr0 b0 b1 b2 b3 b4 b5 b6 b7
    go_wp2_with fail
    go_ret
    exact ⟨ret_int HF.out, hbb⟩

end Go.Proofs.YtphdbpljgilcgaaDoor.M
