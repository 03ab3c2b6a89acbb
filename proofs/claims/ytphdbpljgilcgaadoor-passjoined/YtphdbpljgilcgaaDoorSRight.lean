/-
  Own text: whether what was seen may be: the contract of Right.
-/
import Derived.Test.YtphdbpljgilcgaaDoorSKey
namespace Go.Proofs.YtphdbpljgilcgaaDoor.M
open Go.ChangeShapes Go.WideShapes Go.ChangeAt Go.RowKit Go.Proofs
set_option linter.unusedSimpArgs false

/-- Numbers as the kinds hold them. -/
def Fit (L : List Sn) : Prop := ∀ m ∈ L, m.n < 18446744073709551616

theorem Fit.get {L : List Sn} (h : Fit L) (i : Nat) : (L.getD i .z0).n < 18446744073709551616 := by
  rw [List.getD_eq_getElem?_getD]
  rcases Nat.lt_or_ge i L.length with hi | hi
  · rw [List.getElem?_eq_getElem hi]
    exact h _ (List.getElem_mem hi)
  · rw [List.getElem?_eq_none hi]
    decide

/-- Whether one may stand where it stands. -/
def okAt (L : List Sn) (i : Nat) : Bool := (decide (i = 0) || decide ((L.getD (i - 1) .z0).n < (L.getD i .z0).n)) && (okK (L.getD i .z0).n && (decide (1 ≤ (L.getD i .z0).v) && decide ((L.getD i .z0).v ≤ 1099511627776)))

/-- What Right tells. -/
def rightL (L : List Sn) : Int := if 6 < L.length then 7 else if (List.range L.length).all (okAt L) = true then 0 else 100

theorem all_step (L : List Sn) (k : Nat) : (List.range (k + 1)).all (okAt L) = ((List.range k).all (okAt L) && okAt L k) := by
  rw [List.range_succ, List.all_append]
  simp

theorem right_bad {L : List Sn} {k : Nat} (h6 : L.length ≤ 6) (hk : k < L.length) (h : okAt L k = false) : rightL L = 100 := by
  unfold rightL
  rw [if_neg (by omega), if_neg]
  intro h2
  rw [List.all_eq_true] at h2
  have := h2 k (List.mem_range.2 hk)
  rw [h] at this
  cases this

theorem box9 (w : World) (t : TypeId) (n : Nat) (v : Int) : (w.alloc (.cells #[.int .u8 (bt (n) 0), .int .u8 (bt (n) 1), .int .u8 (bt (n) 2), .int .u8 (bt (n) 3), .int .u8 (bt (n) 4), .int .u8 (bt (n) 5), .int .u8 (bt (n) 6), .int .u8 (bt (n) 7), .int .i64 v] t)).cell? ⟨w.heap.size, 0, none⟩ = some (.int .u8 (bt (⟨n, v⟩ : Sn).n 0)) ∧ (w.alloc (.cells #[.int .u8 (bt (n) 0), .int .u8 (bt (n) 1), .int .u8 (bt (n) 2), .int .u8 (bt (n) 3), .int .u8 (bt (n) 4), .int .u8 (bt (n) 5), .int .u8 (bt (n) 6), .int .u8 (bt (n) 7), .int .i64 v] t)).cell? ⟨w.heap.size, 1, none⟩ = some (.int .u8 (bt (⟨n, v⟩ : Sn).n 1)) ∧ (w.alloc (.cells #[.int .u8 (bt (n) 0), .int .u8 (bt (n) 1), .int .u8 (bt (n) 2), .int .u8 (bt (n) 3), .int .u8 (bt (n) 4), .int .u8 (bt (n) 5), .int .u8 (bt (n) 6), .int .u8 (bt (n) 7), .int .i64 v] t)).cell? ⟨w.heap.size, 2, none⟩ = some (.int .u8 (bt (⟨n, v⟩ : Sn).n 2)) ∧ (w.alloc (.cells #[.int .u8 (bt (n) 0), .int .u8 (bt (n) 1), .int .u8 (bt (n) 2), .int .u8 (bt (n) 3), .int .u8 (bt (n) 4), .int .u8 (bt (n) 5), .int .u8 (bt (n) 6), .int .u8 (bt (n) 7), .int .i64 v] t)).cell? ⟨w.heap.size, 3, none⟩ = some (.int .u8 (bt (⟨n, v⟩ : Sn).n 3)) ∧ (w.alloc (.cells #[.int .u8 (bt (n) 0), .int .u8 (bt (n) 1), .int .u8 (bt (n) 2), .int .u8 (bt (n) 3), .int .u8 (bt (n) 4), .int .u8 (bt (n) 5), .int .u8 (bt (n) 6), .int .u8 (bt (n) 7), .int .i64 v] t)).cell? ⟨w.heap.size, 4, none⟩ = some (.int .u8 (bt (⟨n, v⟩ : Sn).n 4)) ∧ (w.alloc (.cells #[.int .u8 (bt (n) 0), .int .u8 (bt (n) 1), .int .u8 (bt (n) 2), .int .u8 (bt (n) 3), .int .u8 (bt (n) 4), .int .u8 (bt (n) 5), .int .u8 (bt (n) 6), .int .u8 (bt (n) 7), .int .i64 v] t)).cell? ⟨w.heap.size, 5, none⟩ = some (.int .u8 (bt (⟨n, v⟩ : Sn).n 5)) ∧ (w.alloc (.cells #[.int .u8 (bt (n) 0), .int .u8 (bt (n) 1), .int .u8 (bt (n) 2), .int .u8 (bt (n) 3), .int .u8 (bt (n) 4), .int .u8 (bt (n) 5), .int .u8 (bt (n) 6), .int .u8 (bt (n) 7), .int .i64 v] t)).cell? ⟨w.heap.size, 6, none⟩ = some (.int .u8 (bt (⟨n, v⟩ : Sn).n 6)) ∧ (w.alloc (.cells #[.int .u8 (bt (n) 0), .int .u8 (bt (n) 1), .int .u8 (bt (n) 2), .int .u8 (bt (n) 3), .int .u8 (bt (n) 4), .int .u8 (bt (n) 5), .int .u8 (bt (n) 6), .int .u8 (bt (n) 7), .int .i64 v] t)).cell? ⟨w.heap.size, 7, none⟩ = some (.int .u8 (bt (⟨n, v⟩ : Sn).n 7)) ∧ (w.alloc (.cells #[.int .u8 (bt (n) 0), .int .u8 (bt (n) 1), .int .u8 (bt (n) 2), .int .u8 (bt (n) 3), .int .u8 (bt (n) 4), .int .u8 (bt (n) 5), .int .u8 (bt (n) 6), .int .u8 (bt (n) 7), .int .i64 v] t)).cell? ⟨w.heap.size, 8, none⟩ = some (.int .i64 (⟨n, v⟩ : Sn).v) := by
  refine ⟨?_, ?_, ?_, ?_, ?_, ?_, ?_, ?_, ?_⟩ <;> simp

set_option maxRecDepth 20000 in
set_option maxHeartbeats 2000000 in
theorem right_any (p : Option Addr) (n c : Nat) (L : List Sn) (w : World) (hr : RdM w p n c L) (hf : Fit L) (hn : n ≤ 1099511627776) (hT : Tabs w) :
    Calls Tryd.prog 6 #[.slice p n c] w fun e w' => e = .returned (.int .i64 (rightL L)) ∧ Below w.heap.size w w' := by
  have hl := hr.len
  by_cases h6 : 6 < n
  · have HR : Hid (rightL L = 7) := by unfold Hid rightL; rw [if_pos (by omega)]
    have h6i : (6 : Int) < (n : Int) := by omega
    clear hr hl
    go_enter Tryd.func6, Tryd.ntmps6
    go_wp2_with fail
    go_ret
    exact ⟨ret_int HR.out.symm, Below.refl _ _⟩
  · have h6i : ¬ (6 : Int) < (n : Int) := by omega
    have hN := fun (m : Nat) (W : World) (h : m < 18446744073709551616) => number8 m h W
    have hI := fun (m : Nat) (W : World) (h : Tabs W) => isKey_any m W h
    go_enter Tryd.func6, Tryd.ntmps6
    go_wp2_with fail
    go_loopw [11] (fun i wr => ∃ k : Nat, k ≤ n ∧ i = .int .i64 k ∧ Hid ((List.range k).all (okAt L) = true) ∧ Below w.heap.size w wr) (fun i _ => n - (intOf i).toNat)
    case atStart => exact ⟨0, Nat.zero_le _, rfl, rfl, Below.refl _ _⟩
    case round =>
      obtain ⟨k, hk, rfl, HR, hb⟩ := hrel
      by_cases h : k < n
      · have hrr := hr.below hb
        have hTr := hT.up (hb.mono (Nat.le_refl _))
        obtain ⟨b, o, rfl, hc⟩ := hrr.cells (by omega)
        obtain ⟨x0, x1, x2, x3, x4, x5, x6, x7, x8⟩ := hc k h
        have hfk := hf.get k
        have hk1 : (k : Int) < (n : Int) := by omega
        have HN : Hid ((L.getD k .z0).n = (L.getD k .z0).n) := rfl
        have HV : Hid ((L.getD k .z0).v = (L.getD k .z0).v) := rfl
        have hcp := hc
        have hpf := hf.get (k - 1)
        clear hc hr
        generalize hkn : (L.getD k .z0).n = kn at x0 x1 x2 x3 x4 x5 x6 x7 hfk
        generalize hkv : (L.getD k .z0).v = kv at x8
        clear HN HV
        have HN : Hid ((L.getD k .z0).n = kn) := hkn
        have HV : Hid ((L.getD k .z0).v = kv) := hkv
        clear hkn hkv
        obtain ⟨y0, y1, y2, y3, y4, y5, y6, y7, y8⟩ := box9 wr 36 kn kv
        have hbV := hb.trans ((below_alloc wr (.cells #[.int .u8 (bt (kn) 0), .int .u8 (bt (kn) 1), .int .u8 (bt (kn) 2), .int .u8 (bt (kn) 3), .int .u8 (bt (kn) 4), .int .u8 (bt (kn) 5), .int .u8 (bt (kn) 6), .int .u8 (bt (kn) 7), .int .i64 kv] 36)).mono hb.size)
        by_cases hk0 : k = 0
        · have hz : ((k : Int) == 0) = true := by simp [hk0]
          have HK : Hid (okAt L k = (true && (okK kn && (decide (1 ≤ kv) && decide (kv ≤ 1099511627776))))) := by
            unfold Hid okAt
            rw [decide_eq_true hk0, HN.out, HV.out]
            rfl
          clear hk0 HN HV hcp hpf hrr
          go_wp2_with fail
          generalize (wr.alloc (.cells #[.int .u8 (bt (kn) 0), .int .u8 (bt (kn) 1), .int .u8 (bt (kn) 2), .int .u8 (bt (kn) 3), .int .u8 (bt (kn) 4), .int .u8 (bt (kn) 5), .int .u8 (bt (kn) 6), .int .u8 (bt (kn) 7), .int .i64 kv] 36)) = V at *
          refine wp_region_quiet_below (by kernel_rfl) (by kernel_rfl) ?_
          repeat (with_reducible refine wpQuiet_step (fun K hK => ?_); go_simp; first | (with_reducible refine hK _ ?_; clear hK K) | (rw [if_neg (by decide)]; with_reducible refine hK _ ?_; clear hK K))
          with_reducible refine wpQuiet_nil ?_
          intro _ hw'
          obtain ⟨⟨dq, osq⟩, hw''⟩ := hw'
          subst hw''
          have hb6 := hbV.trans ((below_regrown V dq osq).mono hbV.size)
          have hI6 := hI kn _ (hT.up hb6)
          have z0 := cell_regrown y0 dq osq
          have z1 := cell_regrown y1 dq osq
          have z2 := cell_regrown y2 dq osq
          have z3 := cell_regrown y3 dq osq
          have z4 := cell_regrown y4 dq osq
          have z5 := cell_regrown y5 dq osq
          have z6 := cell_regrown y6 dq osq
          have z7 := cell_regrown y7 dq osq
          have z8 := cell_regrown y8 dq osq
          generalize (Sort.grow (redrawn V dq) osq) = W6 at *
          clear y0 y1 y2 y3 y4 y5 y6 y7 y8 hbV hI hN
          by_cases hK : okK kn = true
          · by_cases hv1 : 1 ≤ kv
            · by_cases hv2 : kv ≤ 1099511627776
              · have HA : Hid (okAt L k = true) := by unfold Hid; rw [HK.out, hK, decide_eq_true hv1, decide_eq_true hv2]; rfl
                have hv3 : ¬ kv < 1 := by omega
                have hv4 : ¬ 1099511627776 < kv := by omega
                rw [hK] at hI6
                clear HK hK hv1 hv2
                go_wp2_with fail
                refine hI6.mono ?_
                rintro e w7 ⟨rfl, hb7⟩
                have z9 := (hb7.cell (p := ⟨wr.heap.size, 8, none⟩) (World.block_lt_of_cell? _ _ z8)).trans z8
                clear hI6
                go_wp2_with fail
                go_roundw
                case rel => exact ⟨k + 1, by omega, by go_num, by unfold Hid; rw [all_step, HR.out, HA.out]; rfl, hb6.trans (hb7.mono hb6.size)⟩
                case measure => simp [intOf]; omega
              · have HA : Hid (rightL L = 100) := right_bad (k := k) (by omega) (by omega) (by rw [HK.out, decide_eq_false hv2]; simp)
                have hv3 : ¬ kv < 1 := by omega
                have hv4 : 1099511627776 < kv := by omega
                rw [hK] at hI6
                clear HK hK hv1 hv2
                go_wp2_with fail
                refine hI6.mono ?_
                rintro e w7 ⟨rfl, hb7⟩
                have z9 := (hb7.cell (p := ⟨wr.heap.size, 8, none⟩) (World.block_lt_of_cell? _ _ z8)).trans z8
                clear hI6
                go_wp2_with fail
                go_ret
                exact ⟨ret_int HA.out.symm, hb6.trans (hb7.mono hb6.size)⟩
            · have HA : Hid (rightL L = 100) := right_bad (k := k) (by omega) (by omega) (by rw [HK.out, decide_eq_false hv1]; simp)
              have hv3 : kv < 1 := by omega
              rw [hK] at hI6
              clear HK hK hv1
              go_wp2_with fail
              refine hI6.mono ?_
              rintro e w7 ⟨rfl, hb7⟩
              have z9 := (hb7.cell (p := ⟨wr.heap.size, 8, none⟩) (World.block_lt_of_cell? _ _ z8)).trans z8
              clear hI6
              go_wp2_with fail
              go_ret
              exact ⟨ret_int HA.out.symm, hb6.trans (hb7.mono hb6.size)⟩
          · have HA : Hid (rightL L = 100) := right_bad (k := k) (by omega) (by omega) (by rw [HK.out]; simp [hK])
            have hK2 : okK kn = false := by simpa using hK
            rw [hK2] at hI6
            clear HK hK hK2
            go_wp2_with fail
            refine hI6.mono ?_
            rintro e w7 ⟨rfl, hb7⟩
            have z9 := (hb7.cell (p := ⟨wr.heap.size, 8, none⟩) (World.block_lt_of_cell? _ _ z8)).trans z8
            clear hI6
            go_wp2_with fail
            go_ret
            exact ⟨ret_int HA.out.symm, hb6.trans (hb7.mono hb6.size)⟩
        · obtain ⟨j, hj⟩ : ∃ j, k = j + 1 := ⟨k - 1, by omega⟩
          have hz : ((k : Int) == 0) = false := by simp; omega
          obtain ⟨p0, p1, p2, p3, p4, p5, p6, p7, _⟩ := hcp j (by omega)
          have hj4 : k - 1 = j := by omega
          rw [hj4] at hpf
          have hj2 : (k : Int) - 1 = (j : Int) := by omega
          have hj3 : (j : Int) < (n : Int) := by omega
          have hjw : IntKind.i64.wrap (j : Int) = (j : Int) := by rw [IntKind.wrap_i64]; omega
          have HK : Hid (okAt L k = (decide ((L.getD j .z0).n < kn) && (okK kn && (decide (1 ≤ kv) && decide (kv ≤ 1099511627776))))) := by
            unfold Hid okAt
            rw [decide_eq_false hk0, HN.out, HV.out, hj4]
            rfl
          generalize (L.getD j .z0).n = pn at *
          clear hj4 hk0 HN HV hcp hrr hj
          have q0 := ((below_alloc wr (.cells #[.int .u8 (bt (kn) 0), .int .u8 (bt (kn) 1), .int .u8 (bt (kn) 2), .int .u8 (bt (kn) 3), .int .u8 (bt (kn) 4), .int .u8 (bt (kn) 5), .int .u8 (bt (kn) 6), .int .u8 (bt (kn) 7), .int .i64 kv] 36)).cell (p := ⟨b, o + j * 9, none⟩) (World.block_lt_of_cell? _ _ p0)).trans p0
          have q1 := ((below_alloc wr (.cells #[.int .u8 (bt (kn) 0), .int .u8 (bt (kn) 1), .int .u8 (bt (kn) 2), .int .u8 (bt (kn) 3), .int .u8 (bt (kn) 4), .int .u8 (bt (kn) 5), .int .u8 (bt (kn) 6), .int .u8 (bt (kn) 7), .int .i64 kv] 36)).cell (p := ⟨b, o + j * 9 + 1, none⟩) (World.block_lt_of_cell? _ _ p1)).trans p1
          have q2 := ((below_alloc wr (.cells #[.int .u8 (bt (kn) 0), .int .u8 (bt (kn) 1), .int .u8 (bt (kn) 2), .int .u8 (bt (kn) 3), .int .u8 (bt (kn) 4), .int .u8 (bt (kn) 5), .int .u8 (bt (kn) 6), .int .u8 (bt (kn) 7), .int .i64 kv] 36)).cell (p := ⟨b, o + j * 9 + 2, none⟩) (World.block_lt_of_cell? _ _ p2)).trans p2
          have q3 := ((below_alloc wr (.cells #[.int .u8 (bt (kn) 0), .int .u8 (bt (kn) 1), .int .u8 (bt (kn) 2), .int .u8 (bt (kn) 3), .int .u8 (bt (kn) 4), .int .u8 (bt (kn) 5), .int .u8 (bt (kn) 6), .int .u8 (bt (kn) 7), .int .i64 kv] 36)).cell (p := ⟨b, o + j * 9 + 3, none⟩) (World.block_lt_of_cell? _ _ p3)).trans p3
          have q4 := ((below_alloc wr (.cells #[.int .u8 (bt (kn) 0), .int .u8 (bt (kn) 1), .int .u8 (bt (kn) 2), .int .u8 (bt (kn) 3), .int .u8 (bt (kn) 4), .int .u8 (bt (kn) 5), .int .u8 (bt (kn) 6), .int .u8 (bt (kn) 7), .int .i64 kv] 36)).cell (p := ⟨b, o + j * 9 + 4, none⟩) (World.block_lt_of_cell? _ _ p4)).trans p4
          have q5 := ((below_alloc wr (.cells #[.int .u8 (bt (kn) 0), .int .u8 (bt (kn) 1), .int .u8 (bt (kn) 2), .int .u8 (bt (kn) 3), .int .u8 (bt (kn) 4), .int .u8 (bt (kn) 5), .int .u8 (bt (kn) 6), .int .u8 (bt (kn) 7), .int .i64 kv] 36)).cell (p := ⟨b, o + j * 9 + 5, none⟩) (World.block_lt_of_cell? _ _ p5)).trans p5
          have q6 := ((below_alloc wr (.cells #[.int .u8 (bt (kn) 0), .int .u8 (bt (kn) 1), .int .u8 (bt (kn) 2), .int .u8 (bt (kn) 3), .int .u8 (bt (kn) 4), .int .u8 (bt (kn) 5), .int .u8 (bt (kn) 6), .int .u8 (bt (kn) 7), .int .i64 kv] 36)).cell (p := ⟨b, o + j * 9 + 6, none⟩) (World.block_lt_of_cell? _ _ p6)).trans p6
          have q7 := ((below_alloc wr (.cells #[.int .u8 (bt (kn) 0), .int .u8 (bt (kn) 1), .int .u8 (bt (kn) 2), .int .u8 (bt (kn) 3), .int .u8 (bt (kn) 4), .int .u8 (bt (kn) 5), .int .u8 (bt (kn) 6), .int .u8 (bt (kn) 7), .int .i64 kv] 36)).cell (p := ⟨b, o + j * 9 + 7, none⟩) (World.block_lt_of_cell? _ _ p7)).trans p7
          go_wp2_with fail
          generalize (wr.alloc (.cells #[.int .u8 (bt (kn) 0), .int .u8 (bt (kn) 1), .int .u8 (bt (kn) 2), .int .u8 (bt (kn) 3), .int .u8 (bt (kn) 4), .int .u8 (bt (kn) 5), .int .u8 (bt (kn) 6), .int .u8 (bt (kn) 7), .int .i64 kv] 36)) = V at *
          have k0 := cell_regrown y0
          have k1 := cell_regrown y1
          have k2 := cell_regrown y2
          have k3 := cell_regrown y3
          have k4 := cell_regrown y4
          have k5 := cell_regrown y5
          have k6 := cell_regrown y6
          have k7 := cell_regrown y7
          have m0 := cell_regrown q0
          have m1 := cell_regrown q1
          have m2 := cell_regrown q2
          have m3 := cell_regrown q3
          have m4 := cell_regrown q4
          have m5 := cell_regrown q5
          have m6 := cell_regrown q6
          have m7 := cell_regrown q7
          have c1 := fun d os => Calls.regrown_of (hN pn (Sort.grow (redrawn V d) os) hpf)
          have c2 := fun d os => Calls.regrown_of (hN kn (Sort.grow (redrawn V d) os) hfk)
          clear p0 p1 p2 p3 p4 p5 p6 p7 q0 q1 q2 q3 q4 q5 q6 q7 x0 x1 x2 x3 x4 x5 x6 x7 x8
          by_cases hpk : pn < kn
          · have hpi : (pn : Int) < (kn : Int) := by omega
            rw [decide_eq_true hpk] at HK
            clear hpk
            refine wp_region_quiet_below (by kernel_rfl) (by kernel_rfl) ?_
            repeat (with_reducible refine wpQuiet_step (fun K hK => ?_); go_simp; first | (with_reducible refine hK _ ?_; clear hK K) | (rw [if_neg (by decide)]; with_reducible refine hK _ ?_; clear hK K) | (apply Exists.intro; refine ⟨fun _ => ?_, hK _ ?_⟩; (first | (go_at_call 14; first | with_reducible exact c1 _ _ | with_reducible exact c2 _ _)); clear hK K))
            with_reducible refine wpQuiet_nil ?_
            intro _ hw'
            obtain ⟨⟨dq, osq⟩, hw''⟩ := hw'
            subst hw''
            clear k0 k1 k2 k3 k4 k5 k6 k7 m0 m1 m2 m3 m4 m5 m6 m7 c1 c2
            have hb6 := hbV.trans ((below_regrown V dq osq).mono hbV.size)
            have hI6 := hI kn _ (hT.up hb6)
            have z0 := cell_regrown y0 dq osq
            have z1 := cell_regrown y1 dq osq
            have z2 := cell_regrown y2 dq osq
            have z3 := cell_regrown y3 dq osq
            have z4 := cell_regrown y4 dq osq
            have z5 := cell_regrown y5 dq osq
            have z6 := cell_regrown y6 dq osq
            have z7 := cell_regrown y7 dq osq
            have z8 := cell_regrown y8 dq osq
            generalize (Sort.grow (redrawn V dq) osq) = W6 at *
            clear y0 y1 y2 y3 y4 y5 y6 y7 y8 hbV hI hN
            by_cases hK : okK kn = true
            · by_cases hv1 : 1 ≤ kv
              · by_cases hv2 : kv ≤ 1099511627776
                · have HA : Hid (okAt L k = true) := by unfold Hid; rw [HK.out, hK, decide_eq_true hv1, decide_eq_true hv2]; rfl
                  have hv3 : ¬ kv < 1 := by omega
                  have hv4 : ¬ 1099511627776 < kv := by omega
                  rw [hK] at hI6
                  clear HK hK hv1 hv2
                  go_wp2_with fail
                  refine hI6.mono ?_
                  rintro e w7 ⟨rfl, hb7⟩
                  have z9 := (hb7.cell (p := ⟨wr.heap.size, 8, none⟩) (World.block_lt_of_cell? _ _ z8)).trans z8
                  clear hI6
                  go_wp2_with fail
                  go_roundw
                  case rel => exact ⟨k + 1, by omega, by go_num, by unfold Hid; rw [all_step, HR.out, HA.out]; rfl, hb6.trans (hb7.mono hb6.size)⟩
                  case measure => simp [intOf]; omega
                · have HA : Hid (rightL L = 100) := right_bad (k := k) (by omega) (by omega) (by rw [HK.out, decide_eq_false hv2]; simp)
                  have hv3 : ¬ kv < 1 := by omega
                  have hv4 : 1099511627776 < kv := by omega
                  rw [hK] at hI6
                  clear HK hK hv1 hv2
                  go_wp2_with fail
                  refine hI6.mono ?_
                  rintro e w7 ⟨rfl, hb7⟩
                  have z9 := (hb7.cell (p := ⟨wr.heap.size, 8, none⟩) (World.block_lt_of_cell? _ _ z8)).trans z8
                  clear hI6
                  go_wp2_with fail
                  go_ret
                  exact ⟨ret_int HA.out.symm, hb6.trans (hb7.mono hb6.size)⟩
              · have HA : Hid (rightL L = 100) := right_bad (k := k) (by omega) (by omega) (by rw [HK.out, decide_eq_false hv1]; simp)
                have hv3 : kv < 1 := by omega
                rw [hK] at hI6
                clear HK hK hv1
                go_wp2_with fail
                refine hI6.mono ?_
                rintro e w7 ⟨rfl, hb7⟩
                have z9 := (hb7.cell (p := ⟨wr.heap.size, 8, none⟩) (World.block_lt_of_cell? _ _ z8)).trans z8
                clear hI6
                go_wp2_with fail
                go_ret
                exact ⟨ret_int HA.out.symm, hb6.trans (hb7.mono hb6.size)⟩
            · have HA : Hid (rightL L = 100) := right_bad (k := k) (by omega) (by omega) (by rw [HK.out]; simp [hK])
              have hK2 : okK kn = false := by simpa using hK
              rw [hK2] at hI6
              clear HK hK hK2
              go_wp2_with fail
              refine hI6.mono ?_
              rintro e w7 ⟨rfl, hb7⟩
              have z9 := (hb7.cell (p := ⟨wr.heap.size, 8, none⟩) (World.block_lt_of_cell? _ _ z8)).trans z8
              clear hI6
              go_wp2_with fail
              go_ret
              exact ⟨ret_int HA.out.symm, hb6.trans (hb7.mono hb6.size)⟩
          · have hpi : ¬ (pn : Int) < (kn : Int) := by omega
            have HA : Hid (rightL L = 100) := right_bad (k := k) (by omega) (by omega) (by rw [HK.out, decide_eq_false hpk]; simp)
            clear hpk HK
            refine wp_region_quiet_below (by kernel_rfl) (by kernel_rfl) ?_
            repeat (with_reducible refine wpQuiet_step (fun K hK => ?_); go_simp; first | (with_reducible refine hK _ ?_; clear hK K) | (rw [if_neg (by decide)]; with_reducible refine hK _ ?_; clear hK K) | (apply Exists.intro; refine ⟨fun _ => ?_, hK _ ?_⟩; (first | (go_at_call 14; first | with_reducible exact c1 _ _ | with_reducible exact c2 _ _)); clear hK K))
            with_reducible refine wpQuiet_nil ?_
            intro _ hw'
            obtain ⟨⟨dq, osq⟩, hw''⟩ := hw'
            subst hw''
            clear k0 k1 k2 k3 k4 k5 k6 k7 m0 m1 m2 m3 m4 m5 m6 m7 c1 c2
            have hb6 := hbV.trans ((below_regrown V dq osq).mono hbV.size)
            go_wp2_with fail
            go_ret
            exact ⟨ret_int HA.out.symm, hb6⟩
      · obtain rfl : k = n := by omega
        have HA : Hid (rightL L = 0) := by
          unfold Hid rightL
          rw [if_neg (by omega), if_pos (by rw [hl]; exact HR.out)]
        clear hr HR
        go_wp2_with fail
        go_ret
        exact ⟨ret_int HA.out.symm, hb⟩

end Go.Proofs.YtphdbpljgilcgaaDoor.M
