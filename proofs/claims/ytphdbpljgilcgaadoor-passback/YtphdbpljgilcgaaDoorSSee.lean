/-
  Own text: one version more: the contract of See.
-/
import Derived.Test.YtphdbpljgilcgaaDoorSSee0
namespace Go.Proofs.YtphdbpljgilcgaaDoor.M
open Go.ChangeShapes Go.WideShapes Go.ChangeAt Go.RowKit Go.Proofs
set_option linter.unusedSimpArgs false

set_option maxRecDepth 20000 in
set_option maxHeartbeats 4000000 in
theorem see_any (p : Option Addr) (n c : Nat) (L : List Sn) (q : Nat) (v : Int) (w : World) (hr : RdM w p n c L) (hf : Fit L) (hq : q < 18446744073709551616) (hn : n ≤ 1099511627776) (hT : Tabs w) :
    Calls Tryd.prog 11 #[.slice p n c, .agg #[.int .u8 (bt (q) 0), .int .u8 (bt (q) 1), .int .u8 (bt (q) 2), .int .u8 (bt (q) 3), .int .u8 (bt (q) 4), .int .u8 (bt (q) 5), .int .u8 (bt (q) 6), .int .u8 (bt (q) 7)], .int .i64 v] w fun e w' => ∃ p' c', e = .returned (.tuple #[.slice p' (seeL L q v).1.length c', .int .i64 (seeL L q v).2]) ∧ RdM w' p' (seeL L q v).1.length c' (seeL L q v).1 ∧ Below w.heap.size w w' := by
  have hl := hr.len
  have hb0 := below_alloc w (.cells #[.int .u8 (bt (q) 0), .int .u8 (bt (q) 1), .int .u8 (bt (q) 2), .int .u8 (bt (q) 3), .int .u8 (bt (q) 4), .int .u8 (bt (q) 5), .int .u8 (bt (q) 6), .int .u8 (bt (q) 7)] 34)
  have hr0 := hr.below hb0
  have hT0 := hT.up hb0
  have hgw0 : (w.alloc (.cells #[.int .u8 (bt (q) 0), .int .u8 (bt (q) 1), .int .u8 (bt (q) 2), .int .u8 (bt (q) 3), .int .u8 (bt (q) 4), .int .u8 (bt (q) 5), .int .u8 (bt (q) 6), .int .u8 (bt (q) 7)] 34)).heap.size = w.heap.size + 1 := by simp
  have hR := fun W (h : RdM W p n c L) (h2 : Tabs W) => right_any p n c L W h hf hn h2
  have hK := fun W (h : Tabs W) => isKey_any q W h
  have hFd := fun W (h : RdM W p n c L) => find_any p n c L q W h hf hq hn
  have hCl := fun W (h : RdM W p n c L) => cloneM_any p n c L W h hn
  obtain ⟨b0, b1, b2, b3, b4, b5, b6, b7⟩ := box8 w 34 q
  clear hr
  by_cases hZ : rightL L = 0
  · have h6 := right_six hZ
    have HZ : Hid (rightL L = 0) := hZ
    rw [hZ] at hR
    by_cases hk : okK q = true
    · by_cases hv1 : 0 ≤ v
      · by_cases hv2 : v ≤ 1099511627776
        · have hv3 : ¬ v < 0 := by omega
          have hv4 : ¬ 1099511627776 < v := by omega
          have HS0 : Hid (seeL L q v = if 6 < (ins L q v).length then ([], 7) else (ins L q v, 0)) := by unfold Hid seeL; rw [if_pos hZ, hk, decide_eq_true hv1, decide_eq_true hv2]; rfl
          have HI := ins_at L q v
          have hlen := ins_len L q v
          rw [hk] at hK
          clear hk hZ
          by_cases hA : isA L q = true
          · obtain ⟨hlt, hnn⟩ := isA_lt L q hA
            rw [if_pos hA] at HI
            have hil : (ins L q v).length = n := by rw [HI, List.length_set, hl]
            have HS : Hid (seeL L q v = (L.set (fnd L q) ⟨q, max (L.getD (fnd L q) .z0).v v⟩, 0)) := by unfold Hid; rw [HS0.out, if_neg (by omega), HI]
            rw [hA] at hFd
            clear HS0 HI hlen hil hA
            generalize fnd L q = t at *
            go_enter Tryd.func11, Tryd.ntmps11
            go_wp2_with fail
            refine (hR _ hr0 hT0).mono ?_
            rintro e w1 ⟨rfl, hb1⟩
            have hr1 := hr0.below hb1
            have hT1 := hT0.up hb1
            have hB1 := hb0.trans (hb1.mono hb0.size)
            have c0 := (hb1.cell (p := ⟨w.heap.size, 0, none⟩) (World.block_lt_of_cell? _ _ b0)).trans b0
            have c1 := (hb1.cell (p := ⟨w.heap.size, 1, none⟩) (World.block_lt_of_cell? _ _ b1)).trans b1
            have c2 := (hb1.cell (p := ⟨w.heap.size, 2, none⟩) (World.block_lt_of_cell? _ _ b2)).trans b2
            have c3 := (hb1.cell (p := ⟨w.heap.size, 3, none⟩) (World.block_lt_of_cell? _ _ b3)).trans b3
            have c4 := (hb1.cell (p := ⟨w.heap.size, 4, none⟩) (World.block_lt_of_cell? _ _ b4)).trans b4
            have c5 := (hb1.cell (p := ⟨w.heap.size, 5, none⟩) (World.block_lt_of_cell? _ _ b5)).trans b5
            have c6 := (hb1.cell (p := ⟨w.heap.size, 6, none⟩) (World.block_lt_of_cell? _ _ b6)).trans b6
            have c7 := (hb1.cell (p := ⟨w.heap.size, 7, none⟩) (World.block_lt_of_cell? _ _ b7)).trans b7
            clear hR hT0 hr0 b0 b1 b2 b3 b4 b5 b6 b7
            go_wp2_with fail
            refine (hK _ hT1).mono ?_
            rintro e w2 ⟨rfl, hb2⟩
            have hr2 := hr1.below hb2
            have hT2 := hT1.up hb2
            have hB2 := hB1.trans (hb2.mono hB1.size)
            have d0 := (hb2.cell (p := ⟨w.heap.size, 0, none⟩) (World.block_lt_of_cell? _ _ c0)).trans c0
            have d1 := (hb2.cell (p := ⟨w.heap.size, 1, none⟩) (World.block_lt_of_cell? _ _ c1)).trans c1
            have d2 := (hb2.cell (p := ⟨w.heap.size, 2, none⟩) (World.block_lt_of_cell? _ _ c2)).trans c2
            have d3 := (hb2.cell (p := ⟨w.heap.size, 3, none⟩) (World.block_lt_of_cell? _ _ c3)).trans c3
            have d4 := (hb2.cell (p := ⟨w.heap.size, 4, none⟩) (World.block_lt_of_cell? _ _ c4)).trans c4
            have d5 := (hb2.cell (p := ⟨w.heap.size, 5, none⟩) (World.block_lt_of_cell? _ _ c5)).trans c5
            have d6 := (hb2.cell (p := ⟨w.heap.size, 6, none⟩) (World.block_lt_of_cell? _ _ c6)).trans c6
            have d7 := (hb2.cell (p := ⟨w.heap.size, 7, none⟩) (World.block_lt_of_cell? _ _ c7)).trans c7
            clear hK hT1 hr1 c0 c1 c2 c3 c4 c5 c6 c7
            go_wp2_with fail
            refine (hFd _ hr2).mono ?_
            rintro e w3 ⟨rfl, hb3⟩
            have hr3 := hr2.below hb3
            have hB3 := hB2.trans (hb3.mono hB2.size)
            have e0 := (hb3.cell (p := ⟨w.heap.size, 0, none⟩) (World.block_lt_of_cell? _ _ d0)).trans d0
            have e1 := (hb3.cell (p := ⟨w.heap.size, 1, none⟩) (World.block_lt_of_cell? _ _ d1)).trans d1
            have e2 := (hb3.cell (p := ⟨w.heap.size, 2, none⟩) (World.block_lt_of_cell? _ _ d2)).trans d2
            have e3 := (hb3.cell (p := ⟨w.heap.size, 3, none⟩) (World.block_lt_of_cell? _ _ d3)).trans d3
            have e4 := (hb3.cell (p := ⟨w.heap.size, 4, none⟩) (World.block_lt_of_cell? _ _ d4)).trans d4
            have e5 := (hb3.cell (p := ⟨w.heap.size, 5, none⟩) (World.block_lt_of_cell? _ _ d5)).trans d5
            have e6 := (hb3.cell (p := ⟨w.heap.size, 6, none⟩) (World.block_lt_of_cell? _ _ d6)).trans d6
            have e7 := (hb3.cell (p := ⟨w.heap.size, 7, none⟩) (World.block_lt_of_cell? _ _ d7)).trans d7
            clear hFd hT2 hr2 d0 d1 d2 d3 d4 d5 d6 d7
            go_wp2_with fail
            refine (hCl _ hr3).mono ?_
            rintro e w4 ⟨v4, rfl, hC4, hb4⟩
            have hB4 := hB3.trans (hb4.mono hB3.size)
            have f0 := (hb4.cell (p := ⟨w.heap.size, 0, none⟩) (World.block_lt_of_cell? _ _ e0)).trans e0
            have f1 := (hb4.cell (p := ⟨w.heap.size, 1, none⟩) (World.block_lt_of_cell? _ _ e1)).trans e1
            have f2 := (hb4.cell (p := ⟨w.heap.size, 2, none⟩) (World.block_lt_of_cell? _ _ e2)).trans e2
            have f3 := (hb4.cell (p := ⟨w.heap.size, 3, none⟩) (World.block_lt_of_cell? _ _ e3)).trans e3
            have f4 := (hb4.cell (p := ⟨w.heap.size, 4, none⟩) (World.block_lt_of_cell? _ _ e4)).trans e4
            have f5 := (hb4.cell (p := ⟨w.heap.size, 5, none⟩) (World.block_lt_of_cell? _ _ e5)).trans e5
            have f6 := (hb4.cell (p := ⟨w.heap.size, 6, none⟩) (World.block_lt_of_cell? _ _ e6)).trans e6
            have f7 := (hb4.cell (p := ⟨w.heap.size, 7, none⟩) (World.block_lt_of_cell? _ _ e7)).trans e7
            clear hCl hr3 e0 e1 e2 e3 e4 e5 e6 e7
            rcases hC4 with ⟨h0, _⟩ | ⟨h0, ho⟩
            · omega
            obtain ⟨g, cap, rfl, hg, hRw⟩ := Row.of_owns ho hl h0
            have hti : (t : Int) < (n : Int) := by omega
            have hle := hRw.le
            have hc8 := hRw.cells (t * 9 + 8) (by omega)
            rw [cellAt_r L t (by decide)] at hc8
            have hc8' : w4.cell? ⟨g, t * 9 + 8, none⟩ = some (.int .i64 (L.getD t .z0).v) := hc8
            have hfr := (hRw.there (t * 9 + 8) (by omega)).2
            rw [Nat.zero_add] at hfr
            have hSt := hRw.setV hlt (max (L.getD t .z0).v v)
            rw [hnn] at hSt
            have hB5 := hB4.setCell (p := ⟨g, t * 9 + 8, none⟩) (show w.heap.size ≤ g by have := hB3.size; omega) (.int .i64 (max (L.getD t .z0).v v))
            have hlm : (L.set t ⟨q, max (L.getD t .z0).v v⟩).length = n := by rw [List.length_set, hl]
            have h6i : ¬ (6 : Int) < (n : Int) := by omega
            clear hc8 hRw ho hgw0
            generalize (L.getD t .z0).v = ov at *
            go_wp2_with fail
            go_ret2
            exact ⟨_, cap, by rw [HS.out, hlm]; rfl, by rw [HS.out]; exact hSt.rd, hB5⟩
          · have hA2 : isA L q = false := by simpa using hA
            rw [if_neg hA] at HI
            have hfle := fnd_le L q
            rw [hA2] at hFd
            by_cases hv0 : 0 < v
            · rw [if_pos hv0] at HI
              have HI2 : ins L q v = insM L (fnd L q) ⟨q, v⟩ := HI
              have hil : (ins L q v).length = n + 1 := by rw [HI2, insM_len, hl]
              by_cases hn0 : n = 0
              · have hL : L = [] := List.length_eq_zero_iff.1 (by omega)
                have HS : Hid (seeL L q v = ([⟨q, v⟩], 0)) := by unfold Hid; rw [HS0.out, if_neg (by omega), HI2, hL]; rfl
                have hf0 : ((fnd L q : Nat) : Int) = 0 := by rw [hL]; rfl
                have hIz := fun (W : World) (y : Option Addr) (vb : Nat) (h : W.heap[vb]? = some (.cells (Sn.cs ⟨q, v⟩).toArray 36)) => insert_zero W y vb ⟨q, v⟩ h
                rw [hf0] at hFd
                have HN0 : Hid (n = 0) := hn0
                have HLL : Hid (L.length = n) := hl
                clear HS0 HI HI2 hlen hil hA hA2 hf0 hfle hL hn0 hl h6 hgw0
                go_enter Tryd.func11, Tryd.ntmps11
                go_wp2_with fail
                refine (hR _ hr0 hT0).mono ?_
                rintro e w1 ⟨rfl, hb1⟩
                have hr1 := hr0.below hb1
                have hT1 := hT0.up hb1
                have hB1 := hb0.trans (hb1.mono hb0.size)
                have c0 := (hb1.cell (p := ⟨w.heap.size, 0, none⟩) (World.block_lt_of_cell? _ _ b0)).trans b0
                have c1 := (hb1.cell (p := ⟨w.heap.size, 1, none⟩) (World.block_lt_of_cell? _ _ b1)).trans b1
                have c2 := (hb1.cell (p := ⟨w.heap.size, 2, none⟩) (World.block_lt_of_cell? _ _ b2)).trans b2
                have c3 := (hb1.cell (p := ⟨w.heap.size, 3, none⟩) (World.block_lt_of_cell? _ _ b3)).trans b3
                have c4 := (hb1.cell (p := ⟨w.heap.size, 4, none⟩) (World.block_lt_of_cell? _ _ b4)).trans b4
                have c5 := (hb1.cell (p := ⟨w.heap.size, 5, none⟩) (World.block_lt_of_cell? _ _ b5)).trans b5
                have c6 := (hb1.cell (p := ⟨w.heap.size, 6, none⟩) (World.block_lt_of_cell? _ _ b6)).trans b6
                have c7 := (hb1.cell (p := ⟨w.heap.size, 7, none⟩) (World.block_lt_of_cell? _ _ b7)).trans b7
                clear hR hT0 hr0 b0 b1 b2 b3 b4 b5 b6 b7
                go_wp2_with fail
                refine (hK _ hT1).mono ?_
                rintro e w2 ⟨rfl, hb2⟩
                have hr2 := hr1.below hb2
                have hT2 := hT1.up hb2
                have hB2 := hB1.trans (hb2.mono hB1.size)
                have d0 := (hb2.cell (p := ⟨w.heap.size, 0, none⟩) (World.block_lt_of_cell? _ _ c0)).trans c0
                have d1 := (hb2.cell (p := ⟨w.heap.size, 1, none⟩) (World.block_lt_of_cell? _ _ c1)).trans c1
                have d2 := (hb2.cell (p := ⟨w.heap.size, 2, none⟩) (World.block_lt_of_cell? _ _ c2)).trans c2
                have d3 := (hb2.cell (p := ⟨w.heap.size, 3, none⟩) (World.block_lt_of_cell? _ _ c3)).trans c3
                have d4 := (hb2.cell (p := ⟨w.heap.size, 4, none⟩) (World.block_lt_of_cell? _ _ c4)).trans c4
                have d5 := (hb2.cell (p := ⟨w.heap.size, 5, none⟩) (World.block_lt_of_cell? _ _ c5)).trans c5
                have d6 := (hb2.cell (p := ⟨w.heap.size, 6, none⟩) (World.block_lt_of_cell? _ _ c6)).trans c6
                have d7 := (hb2.cell (p := ⟨w.heap.size, 7, none⟩) (World.block_lt_of_cell? _ _ c7)).trans c7
                clear hK hT1 hr1 c0 c1 c2 c3 c4 c5 c6 c7
                go_wp2_with fail
                refine (hFd _ hr2).mono ?_
                rintro e w3 ⟨rfl, hb3⟩
                have hr3 := hr2.below hb3
                have hB3 := hB2.trans (hb3.mono hB2.size)
                have e0 := (hb3.cell (p := ⟨w.heap.size, 0, none⟩) (World.block_lt_of_cell? _ _ d0)).trans d0
                have e1 := (hb3.cell (p := ⟨w.heap.size, 1, none⟩) (World.block_lt_of_cell? _ _ d1)).trans d1
                have e2 := (hb3.cell (p := ⟨w.heap.size, 2, none⟩) (World.block_lt_of_cell? _ _ d2)).trans d2
                have e3 := (hb3.cell (p := ⟨w.heap.size, 3, none⟩) (World.block_lt_of_cell? _ _ d3)).trans d3
                have e4 := (hb3.cell (p := ⟨w.heap.size, 4, none⟩) (World.block_lt_of_cell? _ _ d4)).trans d4
                have e5 := (hb3.cell (p := ⟨w.heap.size, 5, none⟩) (World.block_lt_of_cell? _ _ d5)).trans d5
                have e6 := (hb3.cell (p := ⟨w.heap.size, 6, none⟩) (World.block_lt_of_cell? _ _ d6)).trans d6
                have e7 := (hb3.cell (p := ⟨w.heap.size, 7, none⟩) (World.block_lt_of_cell? _ _ d7)).trans d7
                clear hFd hT2 hr2 d0 d1 d2 d3 d4 d5 d6 d7
                go_wp2_with fail
                refine (hCl _ hr3).mono ?_
                rintro e w4 ⟨v4, rfl, hC4, hb4⟩
                have hB4 := hB3.trans (hb4.mono hB3.size)
                have f0 := (hb4.cell (p := ⟨w.heap.size, 0, none⟩) (World.block_lt_of_cell? _ _ e0)).trans e0
                have f1 := (hb4.cell (p := ⟨w.heap.size, 1, none⟩) (World.block_lt_of_cell? _ _ e1)).trans e1
                have f2 := (hb4.cell (p := ⟨w.heap.size, 2, none⟩) (World.block_lt_of_cell? _ _ e2)).trans e2
                have f3 := (hb4.cell (p := ⟨w.heap.size, 3, none⟩) (World.block_lt_of_cell? _ _ e3)).trans e3
                have f4 := (hb4.cell (p := ⟨w.heap.size, 4, none⟩) (World.block_lt_of_cell? _ _ e4)).trans e4
                have f5 := (hb4.cell (p := ⟨w.heap.size, 5, none⟩) (World.block_lt_of_cell? _ _ e5)).trans e5
                have f6 := (hb4.cell (p := ⟨w.heap.size, 6, none⟩) (World.block_lt_of_cell? _ _ e6)).trans e6
                have f7 := (hb4.cell (p := ⟨w.heap.size, 7, none⟩) (World.block_lt_of_cell? _ _ e7)).trans e7
                clear hCl hr3 e0 e1 e2 e3 e4 e5 e6 e7
                rcases hC4 with ⟨_, q4, rfl⟩ | ⟨h0, _⟩
                · have hvn := heap_alloc_new w4 (.cells #[.int .u8 (bt (q) 0), .int .u8 (bt (q) 1), .int .u8 (bt (q) 2), .int .u8 (bt (q) 3), .int .u8 (bt (q) 4), .int .u8 (bt (q) 5), .int .u8 (bt (q) 6), .int .u8 (bt (q) 7), .int .i64 v] 36)
                  have hIz2 := hIz _ (q4) _ hvn
                  have hB5 := hB4.trans ((below_alloc w4 (.cells #[.int .u8 (bt (q) 0), .int .u8 (bt (q) 1), .int .u8 (bt (q) 2), .int .u8 (bt (q) 3), .int .u8 (bt (q) 4), .int .u8 (bt (q) 5), .int .u8 (bt (q) 6), .int .u8 (bt (q) 7), .int .i64 v] 36)).mono hB4.size)
                  clear hIz hvn hb1 hb2 hb3 hb4 hB1 hB2 hB3 hB4 hf
                  go_wp2_with fail
                  refine hIz2.mono ?_
                  rintro e w6 ⟨g6, o6, c6, rfl, hr6, hb6⟩
                  clear hIz2
                  go_wp2_with fail
                  go_ret2
                  exact ⟨_, c6, by rw [HS.out]; rfl, by rw [HS.out]; exact hr6, hB5.trans (hb6.mono hB5.size)⟩
                · exact absurd HN0.out (by omega)
              · have hIa := fun (W : World) (B g N vb : Nat) (ho : W.ownsRow B 36 9 (.slice (some ⟨g, 0, none⟩) n N) n (cellsM L n)) (hB : B ≤ W.heap.size) (h : W.heap[vb]? = some (.cells (Sn.cs ⟨q, v⟩).toArray 36)) (hvg : vb ≠ g) => insert_any W B g N vb L ⟨q, v⟩ n (fnd L q) hl (by omega) ho hB hn (by omega) h hvg
                have hn0' : 0 < n := by omega
                have hins : (insM L (fnd L q) ⟨q, v⟩).length = n + 1 := by rw [insM_len, hl]
                have HS1 : Hid (seeL L q v = if 6 < n + 1 then ([], 7) else (insM L (fnd L q) ⟨q, v⟩, 0)) := by unfold Hid; rw [HS0.out, hil, HI2]
                clear HS0 HI HI2 hlen hil hA hA2 hn0
                generalize fnd L q = t at *
                go_enter Tryd.func11, Tryd.ntmps11
                go_wp2_with fail
                refine (hR _ hr0 hT0).mono ?_
                rintro e w1 ⟨rfl, hb1⟩
                have hr1 := hr0.below hb1
                have hT1 := hT0.up hb1
                have hB1 := hb0.trans (hb1.mono hb0.size)
                have c0 := (hb1.cell (p := ⟨w.heap.size, 0, none⟩) (World.block_lt_of_cell? _ _ b0)).trans b0
                have c1 := (hb1.cell (p := ⟨w.heap.size, 1, none⟩) (World.block_lt_of_cell? _ _ b1)).trans b1
                have c2 := (hb1.cell (p := ⟨w.heap.size, 2, none⟩) (World.block_lt_of_cell? _ _ b2)).trans b2
                have c3 := (hb1.cell (p := ⟨w.heap.size, 3, none⟩) (World.block_lt_of_cell? _ _ b3)).trans b3
                have c4 := (hb1.cell (p := ⟨w.heap.size, 4, none⟩) (World.block_lt_of_cell? _ _ b4)).trans b4
                have c5 := (hb1.cell (p := ⟨w.heap.size, 5, none⟩) (World.block_lt_of_cell? _ _ b5)).trans b5
                have c6 := (hb1.cell (p := ⟨w.heap.size, 6, none⟩) (World.block_lt_of_cell? _ _ b6)).trans b6
                have c7 := (hb1.cell (p := ⟨w.heap.size, 7, none⟩) (World.block_lt_of_cell? _ _ b7)).trans b7
                clear hR hT0 hr0 b0 b1 b2 b3 b4 b5 b6 b7
                go_wp2_with fail
                refine (hK _ hT1).mono ?_
                rintro e w2 ⟨rfl, hb2⟩
                have hr2 := hr1.below hb2
                have hT2 := hT1.up hb2
                have hB2 := hB1.trans (hb2.mono hB1.size)
                have d0 := (hb2.cell (p := ⟨w.heap.size, 0, none⟩) (World.block_lt_of_cell? _ _ c0)).trans c0
                have d1 := (hb2.cell (p := ⟨w.heap.size, 1, none⟩) (World.block_lt_of_cell? _ _ c1)).trans c1
                have d2 := (hb2.cell (p := ⟨w.heap.size, 2, none⟩) (World.block_lt_of_cell? _ _ c2)).trans c2
                have d3 := (hb2.cell (p := ⟨w.heap.size, 3, none⟩) (World.block_lt_of_cell? _ _ c3)).trans c3
                have d4 := (hb2.cell (p := ⟨w.heap.size, 4, none⟩) (World.block_lt_of_cell? _ _ c4)).trans c4
                have d5 := (hb2.cell (p := ⟨w.heap.size, 5, none⟩) (World.block_lt_of_cell? _ _ c5)).trans c5
                have d6 := (hb2.cell (p := ⟨w.heap.size, 6, none⟩) (World.block_lt_of_cell? _ _ c6)).trans c6
                have d7 := (hb2.cell (p := ⟨w.heap.size, 7, none⟩) (World.block_lt_of_cell? _ _ c7)).trans c7
                clear hK hT1 hr1 c0 c1 c2 c3 c4 c5 c6 c7
                go_wp2_with fail
                refine (hFd _ hr2).mono ?_
                rintro e w3 ⟨rfl, hb3⟩
                have hr3 := hr2.below hb3
                have hB3 := hB2.trans (hb3.mono hB2.size)
                have e0 := (hb3.cell (p := ⟨w.heap.size, 0, none⟩) (World.block_lt_of_cell? _ _ d0)).trans d0
                have e1 := (hb3.cell (p := ⟨w.heap.size, 1, none⟩) (World.block_lt_of_cell? _ _ d1)).trans d1
                have e2 := (hb3.cell (p := ⟨w.heap.size, 2, none⟩) (World.block_lt_of_cell? _ _ d2)).trans d2
                have e3 := (hb3.cell (p := ⟨w.heap.size, 3, none⟩) (World.block_lt_of_cell? _ _ d3)).trans d3
                have e4 := (hb3.cell (p := ⟨w.heap.size, 4, none⟩) (World.block_lt_of_cell? _ _ d4)).trans d4
                have e5 := (hb3.cell (p := ⟨w.heap.size, 5, none⟩) (World.block_lt_of_cell? _ _ d5)).trans d5
                have e6 := (hb3.cell (p := ⟨w.heap.size, 6, none⟩) (World.block_lt_of_cell? _ _ d6)).trans d6
                have e7 := (hb3.cell (p := ⟨w.heap.size, 7, none⟩) (World.block_lt_of_cell? _ _ d7)).trans d7
                clear hFd hT2 hr2 d0 d1 d2 d3 d4 d5 d6 d7
                go_wp2_with fail
                refine (hCl _ hr3).mono ?_
                rintro e w4 ⟨v4, rfl, hC4, hb4⟩
                have hB4 := hB3.trans (hb4.mono hB3.size)
                have f0 := (hb4.cell (p := ⟨w.heap.size, 0, none⟩) (World.block_lt_of_cell? _ _ e0)).trans e0
                have f1 := (hb4.cell (p := ⟨w.heap.size, 1, none⟩) (World.block_lt_of_cell? _ _ e1)).trans e1
                have f2 := (hb4.cell (p := ⟨w.heap.size, 2, none⟩) (World.block_lt_of_cell? _ _ e2)).trans e2
                have f3 := (hb4.cell (p := ⟨w.heap.size, 3, none⟩) (World.block_lt_of_cell? _ _ e3)).trans e3
                have f4 := (hb4.cell (p := ⟨w.heap.size, 4, none⟩) (World.block_lt_of_cell? _ _ e4)).trans e4
                have f5 := (hb4.cell (p := ⟨w.heap.size, 5, none⟩) (World.block_lt_of_cell? _ _ e5)).trans e5
                have f6 := (hb4.cell (p := ⟨w.heap.size, 6, none⟩) (World.block_lt_of_cell? _ _ e6)).trans e6
                have f7 := (hb4.cell (p := ⟨w.heap.size, 7, none⟩) (World.block_lt_of_cell? _ _ e7)).trans e7
                clear hCl hr3 e0 e1 e2 e3 e4 e5 e6 e7
                rcases hC4 with ⟨h0, _⟩ | ⟨h0, ho⟩
                · omega
                obtain ⟨g, cap, rfl, hg, hRw⟩ := Row.of_owns ho hl h0
                have hvn := heap_alloc_new w4 (.cells #[.int .u8 (bt (q) 0), .int .u8 (bt (q) 1), .int .u8 (bt (q) 2), .int .u8 (bt (q) 3), .int .u8 (bt (q) 4), .int .u8 (bt (q) 5), .int .u8 (bt (q) 6), .int .u8 (bt (q) 7), .int .i64 v] 36)
                have hba := below_alloc w4 (.cells #[.int .u8 (bt (q) 0), .int .u8 (bt (q) 1), .int .u8 (bt (q) 2), .int .u8 (bt (q) 3), .int .u8 (bt (q) 4), .int .u8 (bt (q) 5), .int .u8 (bt (q) 6), .int .u8 (bt (q) 7), .int .i64 v] 36)
                have hglt := hRw.lt
                have ho5 : (w4.alloc (.cells #[.int .u8 (bt (q) 0), .int .u8 (bt (q) 1), .int .u8 (bt (q) 2), .int .u8 (bt (q) 3), .int .u8 (bt (q) 4), .int .u8 (bt (q) 5), .int .u8 (bt (q) 6), .int .u8 (bt (q) 7), .int .i64 v] 36)).ownsRow w3.heap.size 36 9 (.slice (some ⟨g, 0, none⟩) n cap) n (cellsM L n) := by
                  refine ⟨ho.1, ?_⟩
                  rcases ho.2 with h2 | ⟨g', cap', cur, hv', hg', hh, r⟩
                  · exact Or.inl h2
                  · exact Or.inr ⟨g', cap', cur, hv', hg', by rw [hba.block g' (Array.getElem?_eq_some_iff.1 hh).1]; exact hh, r⟩
                have hIa2 := hIa _ w3.heap.size g cap _ ho5 (by have := hba.size; have := hb4.size; omega) hvn (by omega)
                have hB5 := hB4.trans (hba.mono hB4.size)
                clear hIa hvn ho ho5 hRw hg hba
                by_cases h7 : 6 < n + 1
                · have HS : Hid (seeL L q v = ([], 7)) := by unfold Hid; rw [HS1.out, if_pos h7]
                  have h7i : (6 : Int) < (n : Int) + 1 := by omega
                  go_wp2_with fail
                  refine hIa2.mono ?_
                  rintro e w6 ⟨g6, o6, c6, rfl, hg6, hr6, hb6⟩
                  have hB6 := hB5.trans (hb6.mono (by have := hB3.size; omega))
                  clear hIa2
                  go_wp2_with fail
                  go_ret2
                  exact ⟨none, 0, by rw [HS.out]; rfl, by rw [HS.out]; exact RdM.nilR _ _, hB6⟩
                · have HS : Hid (seeL L q v = (insM L t ⟨q, v⟩, 0)) := by unfold Hid; rw [HS1.out, if_neg h7]
                  have h7i : ¬ (6 : Int) < (n : Int) + 1 := by omega
                  go_wp2_with fail
                  refine hIa2.mono ?_
                  rintro e w6 ⟨g6, o6, c6, rfl, hg6, hr6, hb6⟩
                  have hB6 := hB5.trans (hb6.mono (by have := hB3.size; omega))
                  clear hIa2
                  go_wp2_with fail
                  go_ret2
                  exact ⟨_, c6, by rw [HS.out]; dsimp only; rw [hins]; rfl, by rw [HS.out]; dsimp only; rw [hins]; exact hr6, hB6⟩
            · rw [if_neg hv0] at HI
              have HS : Hid (seeL L q v = (L, 0)) := by unfold Hid; rw [HS0.out, HI, if_neg (by omega)]
              have h6i : ¬ (6 : Int) < (n : Int) := by omega
              clear HS0 HI hlen hA hA2 hfle
              generalize fnd L q = t at *
              go_enter Tryd.func11, Tryd.ntmps11
              go_wp2_with fail
              refine (hR _ hr0 hT0).mono ?_
              rintro e w1 ⟨rfl, hb1⟩
              have hr1 := hr0.below hb1
              have hT1 := hT0.up hb1
              have hB1 := hb0.trans (hb1.mono hb0.size)
              have c0 := (hb1.cell (p := ⟨w.heap.size, 0, none⟩) (World.block_lt_of_cell? _ _ b0)).trans b0
              have c1 := (hb1.cell (p := ⟨w.heap.size, 1, none⟩) (World.block_lt_of_cell? _ _ b1)).trans b1
              have c2 := (hb1.cell (p := ⟨w.heap.size, 2, none⟩) (World.block_lt_of_cell? _ _ b2)).trans b2
              have c3 := (hb1.cell (p := ⟨w.heap.size, 3, none⟩) (World.block_lt_of_cell? _ _ b3)).trans b3
              have c4 := (hb1.cell (p := ⟨w.heap.size, 4, none⟩) (World.block_lt_of_cell? _ _ b4)).trans b4
              have c5 := (hb1.cell (p := ⟨w.heap.size, 5, none⟩) (World.block_lt_of_cell? _ _ b5)).trans b5
              have c6 := (hb1.cell (p := ⟨w.heap.size, 6, none⟩) (World.block_lt_of_cell? _ _ b6)).trans b6
              have c7 := (hb1.cell (p := ⟨w.heap.size, 7, none⟩) (World.block_lt_of_cell? _ _ b7)).trans b7
              clear hR hT0 hr0 b0 b1 b2 b3 b4 b5 b6 b7
              go_wp2_with fail
              refine (hK _ hT1).mono ?_
              rintro e w2 ⟨rfl, hb2⟩
              have hr2 := hr1.below hb2
              have hT2 := hT1.up hb2
              have hB2 := hB1.trans (hb2.mono hB1.size)
              have d0 := (hb2.cell (p := ⟨w.heap.size, 0, none⟩) (World.block_lt_of_cell? _ _ c0)).trans c0
              have d1 := (hb2.cell (p := ⟨w.heap.size, 1, none⟩) (World.block_lt_of_cell? _ _ c1)).trans c1
              have d2 := (hb2.cell (p := ⟨w.heap.size, 2, none⟩) (World.block_lt_of_cell? _ _ c2)).trans c2
              have d3 := (hb2.cell (p := ⟨w.heap.size, 3, none⟩) (World.block_lt_of_cell? _ _ c3)).trans c3
              have d4 := (hb2.cell (p := ⟨w.heap.size, 4, none⟩) (World.block_lt_of_cell? _ _ c4)).trans c4
              have d5 := (hb2.cell (p := ⟨w.heap.size, 5, none⟩) (World.block_lt_of_cell? _ _ c5)).trans c5
              have d6 := (hb2.cell (p := ⟨w.heap.size, 6, none⟩) (World.block_lt_of_cell? _ _ c6)).trans c6
              have d7 := (hb2.cell (p := ⟨w.heap.size, 7, none⟩) (World.block_lt_of_cell? _ _ c7)).trans c7
              clear hK hT1 hr1 c0 c1 c2 c3 c4 c5 c6 c7
              go_wp2_with fail
              refine (hFd _ hr2).mono ?_
              rintro e w3 ⟨rfl, hb3⟩
              have hr3 := hr2.below hb3
              have hB3 := hB2.trans (hb3.mono hB2.size)
              have e0 := (hb3.cell (p := ⟨w.heap.size, 0, none⟩) (World.block_lt_of_cell? _ _ d0)).trans d0
              have e1 := (hb3.cell (p := ⟨w.heap.size, 1, none⟩) (World.block_lt_of_cell? _ _ d1)).trans d1
              have e2 := (hb3.cell (p := ⟨w.heap.size, 2, none⟩) (World.block_lt_of_cell? _ _ d2)).trans d2
              have e3 := (hb3.cell (p := ⟨w.heap.size, 3, none⟩) (World.block_lt_of_cell? _ _ d3)).trans d3
              have e4 := (hb3.cell (p := ⟨w.heap.size, 4, none⟩) (World.block_lt_of_cell? _ _ d4)).trans d4
              have e5 := (hb3.cell (p := ⟨w.heap.size, 5, none⟩) (World.block_lt_of_cell? _ _ d5)).trans d5
              have e6 := (hb3.cell (p := ⟨w.heap.size, 6, none⟩) (World.block_lt_of_cell? _ _ d6)).trans d6
              have e7 := (hb3.cell (p := ⟨w.heap.size, 7, none⟩) (World.block_lt_of_cell? _ _ d7)).trans d7
              clear hFd hT2 hr2 d0 d1 d2 d3 d4 d5 d6 d7
              go_wp2_with fail
              refine (hCl _ hr3).mono ?_
              rintro e w4 ⟨v4, rfl, hC4, hb4⟩
              have hB4 := hB3.trans (hb4.mono hB3.size)
              have f0 := (hb4.cell (p := ⟨w.heap.size, 0, none⟩) (World.block_lt_of_cell? _ _ e0)).trans e0
              have f1 := (hb4.cell (p := ⟨w.heap.size, 1, none⟩) (World.block_lt_of_cell? _ _ e1)).trans e1
              have f2 := (hb4.cell (p := ⟨w.heap.size, 2, none⟩) (World.block_lt_of_cell? _ _ e2)).trans e2
              have f3 := (hb4.cell (p := ⟨w.heap.size, 3, none⟩) (World.block_lt_of_cell? _ _ e3)).trans e3
              have f4 := (hb4.cell (p := ⟨w.heap.size, 4, none⟩) (World.block_lt_of_cell? _ _ e4)).trans e4
              have f5 := (hb4.cell (p := ⟨w.heap.size, 5, none⟩) (World.block_lt_of_cell? _ _ e5)).trans e5
              have f6 := (hb4.cell (p := ⟨w.heap.size, 6, none⟩) (World.block_lt_of_cell? _ _ e6)).trans e6
              have f7 := (hb4.cell (p := ⟨w.heap.size, 7, none⟩) (World.block_lt_of_cell? _ _ e7)).trans e7
              clear hCl hr3 e0 e1 e2 e3 e4 e5 e6 e7
              obtain ⟨q5, c5, rfl, hr5⟩ := hC4.rd hl
              clear hC4
              go_wp2_with fail
              go_ret2
              exact ⟨q5, c5, by rw [HS.out, hl]; rfl, by rw [HS.out]; dsimp only; rw [hl]; exact hr5, hB4⟩
        · have hv3 : ¬ v < 0 := by omega
          have hv4 : 1099511627776 < v := by omega
          have HS : Hid (seeL L q v = ([], 100)) := by unfold Hid seeL; rw [if_pos hZ, if_neg (by rw [decide_eq_false hv2]; simp)]
          rw [hk] at hK
          clear hk hZ hv1 hv2 hFd hCl
          go_enter Tryd.func11, Tryd.ntmps11
          go_wp2_with fail
          refine (hR _ hr0 hT0).mono ?_
          rintro e w1 ⟨rfl, hb1⟩
          have hr1 := hr0.below hb1
          have hT1 := hT0.up hb1
          have hB1 := hb0.trans (hb1.mono hb0.size)
          have c0 := (hb1.cell (p := ⟨w.heap.size, 0, none⟩) (World.block_lt_of_cell? _ _ b0)).trans b0
          have c1 := (hb1.cell (p := ⟨w.heap.size, 1, none⟩) (World.block_lt_of_cell? _ _ b1)).trans b1
          have c2 := (hb1.cell (p := ⟨w.heap.size, 2, none⟩) (World.block_lt_of_cell? _ _ b2)).trans b2
          have c3 := (hb1.cell (p := ⟨w.heap.size, 3, none⟩) (World.block_lt_of_cell? _ _ b3)).trans b3
          have c4 := (hb1.cell (p := ⟨w.heap.size, 4, none⟩) (World.block_lt_of_cell? _ _ b4)).trans b4
          have c5 := (hb1.cell (p := ⟨w.heap.size, 5, none⟩) (World.block_lt_of_cell? _ _ b5)).trans b5
          have c6 := (hb1.cell (p := ⟨w.heap.size, 6, none⟩) (World.block_lt_of_cell? _ _ b6)).trans b6
          have c7 := (hb1.cell (p := ⟨w.heap.size, 7, none⟩) (World.block_lt_of_cell? _ _ b7)).trans b7
          clear hR hT0 hr0 b0 b1 b2 b3 b4 b5 b6 b7
          go_wp2_with fail
          refine (hK _ hT1).mono ?_
          rintro e w2 ⟨rfl, hb2⟩
          have hr2 := hr1.below hb2
          have hT2 := hT1.up hb2
          have hB2 := hB1.trans (hb2.mono hB1.size)
          have d0 := (hb2.cell (p := ⟨w.heap.size, 0, none⟩) (World.block_lt_of_cell? _ _ c0)).trans c0
          have d1 := (hb2.cell (p := ⟨w.heap.size, 1, none⟩) (World.block_lt_of_cell? _ _ c1)).trans c1
          have d2 := (hb2.cell (p := ⟨w.heap.size, 2, none⟩) (World.block_lt_of_cell? _ _ c2)).trans c2
          have d3 := (hb2.cell (p := ⟨w.heap.size, 3, none⟩) (World.block_lt_of_cell? _ _ c3)).trans c3
          have d4 := (hb2.cell (p := ⟨w.heap.size, 4, none⟩) (World.block_lt_of_cell? _ _ c4)).trans c4
          have d5 := (hb2.cell (p := ⟨w.heap.size, 5, none⟩) (World.block_lt_of_cell? _ _ c5)).trans c5
          have d6 := (hb2.cell (p := ⟨w.heap.size, 6, none⟩) (World.block_lt_of_cell? _ _ c6)).trans c6
          have d7 := (hb2.cell (p := ⟨w.heap.size, 7, none⟩) (World.block_lt_of_cell? _ _ c7)).trans c7
          clear hK hT1 hr1 c0 c1 c2 c3 c4 c5 c6 c7
          go_wp2_with fail
          go_ret2
          exact ⟨none, 0, by rw [HS.out]; rfl, by rw [HS.out]; exact RdM.nilR _ _, hB2⟩
      · have hv3 : v < 0 := by omega
        have HS : Hid (seeL L q v = ([], 100)) := by unfold Hid seeL; rw [if_pos hZ, if_neg (by rw [decide_eq_false hv1]; simp)]
        rw [hk] at hK
        clear hk hZ hv1 hFd hCl
        go_enter Tryd.func11, Tryd.ntmps11
        go_wp2_with fail
        refine (hR _ hr0 hT0).mono ?_
        rintro e w1 ⟨rfl, hb1⟩
        have hr1 := hr0.below hb1
        have hT1 := hT0.up hb1
        have hB1 := hb0.trans (hb1.mono hb0.size)
        have c0 := (hb1.cell (p := ⟨w.heap.size, 0, none⟩) (World.block_lt_of_cell? _ _ b0)).trans b0
        have c1 := (hb1.cell (p := ⟨w.heap.size, 1, none⟩) (World.block_lt_of_cell? _ _ b1)).trans b1
        have c2 := (hb1.cell (p := ⟨w.heap.size, 2, none⟩) (World.block_lt_of_cell? _ _ b2)).trans b2
        have c3 := (hb1.cell (p := ⟨w.heap.size, 3, none⟩) (World.block_lt_of_cell? _ _ b3)).trans b3
        have c4 := (hb1.cell (p := ⟨w.heap.size, 4, none⟩) (World.block_lt_of_cell? _ _ b4)).trans b4
        have c5 := (hb1.cell (p := ⟨w.heap.size, 5, none⟩) (World.block_lt_of_cell? _ _ b5)).trans b5
        have c6 := (hb1.cell (p := ⟨w.heap.size, 6, none⟩) (World.block_lt_of_cell? _ _ b6)).trans b6
        have c7 := (hb1.cell (p := ⟨w.heap.size, 7, none⟩) (World.block_lt_of_cell? _ _ b7)).trans b7
        clear hR hT0 hr0 b0 b1 b2 b3 b4 b5 b6 b7
        go_wp2_with fail
        refine (hK _ hT1).mono ?_
        rintro e w2 ⟨rfl, hb2⟩
        have hr2 := hr1.below hb2
        have hT2 := hT1.up hb2
        have hB2 := hB1.trans (hb2.mono hB1.size)
        have d0 := (hb2.cell (p := ⟨w.heap.size, 0, none⟩) (World.block_lt_of_cell? _ _ c0)).trans c0
        have d1 := (hb2.cell (p := ⟨w.heap.size, 1, none⟩) (World.block_lt_of_cell? _ _ c1)).trans c1
        have d2 := (hb2.cell (p := ⟨w.heap.size, 2, none⟩) (World.block_lt_of_cell? _ _ c2)).trans c2
        have d3 := (hb2.cell (p := ⟨w.heap.size, 3, none⟩) (World.block_lt_of_cell? _ _ c3)).trans c3
        have d4 := (hb2.cell (p := ⟨w.heap.size, 4, none⟩) (World.block_lt_of_cell? _ _ c4)).trans c4
        have d5 := (hb2.cell (p := ⟨w.heap.size, 5, none⟩) (World.block_lt_of_cell? _ _ c5)).trans c5
        have d6 := (hb2.cell (p := ⟨w.heap.size, 6, none⟩) (World.block_lt_of_cell? _ _ c6)).trans c6
        have d7 := (hb2.cell (p := ⟨w.heap.size, 7, none⟩) (World.block_lt_of_cell? _ _ c7)).trans c7
        clear hK hT1 hr1 c0 c1 c2 c3 c4 c5 c6 c7
        go_wp2_with fail
        go_ret2
        exact ⟨none, 0, by rw [HS.out]; rfl, by rw [HS.out]; exact RdM.nilR _ _, hB2⟩
    · have HS : Hid (seeL L q v = ([], 100)) := by unfold Hid seeL; rw [if_pos hZ, if_neg (by simp [hk])]
      have hk2 : okK q = false := by simpa using hk
      rw [hk2] at hK
      clear hk hk2 hZ hFd hCl
      go_enter Tryd.func11, Tryd.ntmps11
      go_wp2_with fail
      refine (hR _ hr0 hT0).mono ?_
      rintro e w1 ⟨rfl, hb1⟩
      have hr1 := hr0.below hb1
      have hT1 := hT0.up hb1
      have hB1 := hb0.trans (hb1.mono hb0.size)
      have c0 := (hb1.cell (p := ⟨w.heap.size, 0, none⟩) (World.block_lt_of_cell? _ _ b0)).trans b0
      have c1 := (hb1.cell (p := ⟨w.heap.size, 1, none⟩) (World.block_lt_of_cell? _ _ b1)).trans b1
      have c2 := (hb1.cell (p := ⟨w.heap.size, 2, none⟩) (World.block_lt_of_cell? _ _ b2)).trans b2
      have c3 := (hb1.cell (p := ⟨w.heap.size, 3, none⟩) (World.block_lt_of_cell? _ _ b3)).trans b3
      have c4 := (hb1.cell (p := ⟨w.heap.size, 4, none⟩) (World.block_lt_of_cell? _ _ b4)).trans b4
      have c5 := (hb1.cell (p := ⟨w.heap.size, 5, none⟩) (World.block_lt_of_cell? _ _ b5)).trans b5
      have c6 := (hb1.cell (p := ⟨w.heap.size, 6, none⟩) (World.block_lt_of_cell? _ _ b6)).trans b6
      have c7 := (hb1.cell (p := ⟨w.heap.size, 7, none⟩) (World.block_lt_of_cell? _ _ b7)).trans b7
      clear hR hT0 hr0 b0 b1 b2 b3 b4 b5 b6 b7
      go_wp2_with fail
      refine (hK _ hT1).mono ?_
      rintro e w2 ⟨rfl, hb2⟩
      have hr2 := hr1.below hb2
      have hT2 := hT1.up hb2
      have hB2 := hB1.trans (hb2.mono hB1.size)
      have d0 := (hb2.cell (p := ⟨w.heap.size, 0, none⟩) (World.block_lt_of_cell? _ _ c0)).trans c0
      have d1 := (hb2.cell (p := ⟨w.heap.size, 1, none⟩) (World.block_lt_of_cell? _ _ c1)).trans c1
      have d2 := (hb2.cell (p := ⟨w.heap.size, 2, none⟩) (World.block_lt_of_cell? _ _ c2)).trans c2
      have d3 := (hb2.cell (p := ⟨w.heap.size, 3, none⟩) (World.block_lt_of_cell? _ _ c3)).trans c3
      have d4 := (hb2.cell (p := ⟨w.heap.size, 4, none⟩) (World.block_lt_of_cell? _ _ c4)).trans c4
      have d5 := (hb2.cell (p := ⟨w.heap.size, 5, none⟩) (World.block_lt_of_cell? _ _ c5)).trans c5
      have d6 := (hb2.cell (p := ⟨w.heap.size, 6, none⟩) (World.block_lt_of_cell? _ _ c6)).trans c6
      have d7 := (hb2.cell (p := ⟨w.heap.size, 7, none⟩) (World.block_lt_of_cell? _ _ c7)).trans c7
      clear hK hT1 hr1 c0 c1 c2 c3 c4 c5 c6 c7
      go_wp2_with fail
      go_ret2
      exact ⟨none, 0, by rw [HS.out]; rfl, by rw [HS.out]; exact RdM.nilR _ _, hB2⟩
  · have HS : Hid (seeL L q v = ([], rightL L)) := by unfold Hid seeL; rw [if_neg hZ]
    have hzz : (rightL L != 0) = true := by simp [hZ]
    clear hZ hFd hCl hK
    generalize rightL L = z at *
    go_enter Tryd.func11, Tryd.ntmps11
    go_wp2_with fail
    refine (hR _ hr0 hT0).mono ?_
    rintro e w1 ⟨rfl, hb1⟩
    have hr1 := hr0.below hb1
    have hT1 := hT0.up hb1
    have hB1 := hb0.trans (hb1.mono hb0.size)
    have c0 := (hb1.cell (p := ⟨w.heap.size, 0, none⟩) (World.block_lt_of_cell? _ _ b0)).trans b0
    have c1 := (hb1.cell (p := ⟨w.heap.size, 1, none⟩) (World.block_lt_of_cell? _ _ b1)).trans b1
    have c2 := (hb1.cell (p := ⟨w.heap.size, 2, none⟩) (World.block_lt_of_cell? _ _ b2)).trans b2
    have c3 := (hb1.cell (p := ⟨w.heap.size, 3, none⟩) (World.block_lt_of_cell? _ _ b3)).trans b3
    have c4 := (hb1.cell (p := ⟨w.heap.size, 4, none⟩) (World.block_lt_of_cell? _ _ b4)).trans b4
    have c5 := (hb1.cell (p := ⟨w.heap.size, 5, none⟩) (World.block_lt_of_cell? _ _ b5)).trans b5
    have c6 := (hb1.cell (p := ⟨w.heap.size, 6, none⟩) (World.block_lt_of_cell? _ _ b6)).trans b6
    have c7 := (hb1.cell (p := ⟨w.heap.size, 7, none⟩) (World.block_lt_of_cell? _ _ b7)).trans b7
    clear hR hT0 hr0 b0 b1 b2 b3 b4 b5 b6 b7
    go_wp2_with fail
    go_ret2
    exact ⟨none, 0, by rw [HS.out]; rfl, by rw [HS.out]; exact RdM.nilR _ _, hB1⟩

end Go.Proofs.YtphdbpljgilcgaaDoor.M
