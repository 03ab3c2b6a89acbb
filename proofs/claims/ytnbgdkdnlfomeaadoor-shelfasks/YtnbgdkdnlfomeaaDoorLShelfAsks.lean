/-
  Own text: the walk of the law ShelfAsks.
-/
import Derived.Test.YtnbgdkdnlfomeaaDoorBRX
namespace Go.Proofs.YtnbgdkdnlfomeaaDoor.M
open Go.ChangeShapes Go.WideShapes Go.ChangeAt Go.RowKit Go.ChangeMaps Go.MapKept Go.Maps Go.Shelf Go.Proofs
set_option linter.unusedSimpArgs false

/-- A table was told; two were. -/
def TB1 (w : World) (v : Value) (m : Sm) (W : World) : Prop := Bl w W ∧ TabR W v m
def TB2 (w : World) (v : Value) (m : Sm) (v2 : Value) (m2 : Sm) (W : World) : Prop := Bl w W ∧ TabR W v m ∧ TabR W v2 m2
theorem TB1.stays (w : World) (v : Value) (m : Sm) : Stays (TB1 w v m) := fun _ _ h hb => ⟨Bl.stays w _ _ h.1 hb, h.2.below hb⟩
theorem TB2.stays (w : World) (v : Value) (m : Sm) (v2 : Value) (m2 : Sm) : Stays (TB2 w v m v2 m2) := fun _ _ h hb => ⟨Bl.stays w _ _ h.1 hb, h.2.1.below hb, h.2.2.below hb⟩

set_option maxRecDepth 20000 in
set_option maxHeartbeats 40000000 in
theorem walk_ShelfAsks (w : World) (hT : Tabs w) (ix ep : Int) (cp : Option Addr) (cn cc : Nat) (C : List Ce) (dp : Option Addr) (dn dc : Nat) (D : List Dn) (hC : RdG celS w cp cn cc C) (hD : RdG donS w dp dn dc D) (hck : ∀ c ∈ C, Ce.fit c) (hcn : cn ≤ 9223372036854775807) (hdn : dn ≤ 9223372036854775807)
    (p : Option Addr) (n c : Nat) (ds : List Dv) (hr : RdG dooS w p n c ds) (hds : ∀ d ∈ ds, okD d) (hnn : n ≤ 9223372036854775807) (qi : Int) (q : Nat) (hq : q < 18446744073709551616) (ver : Int) (rc rq : Int) :
    Calls Tryd.prog 3 #[.agg #[.int .i64 ix, .int .i64 ep, .slice cp cn cc, .slice dp dn dc], .slice p n c, .int .i64 qi, .agg #[.int .u8 (bt (q) 0), .int .u8 (bt (q) 1), .int .u8 (bt (q) 2), .int .u8 (bt (q) 3), .int .u8 (bt (q) 4), .int .u8 (bt (q) 5), .int .u8 (bt (q) 6), .int .u8 (bt (q) 7)], .int .i64 ver, .agg #[.int .i64 rc, .int .i64 rq]] w fun e w' => e = .returned (.bool true) ∧ Below w.heap.size w w' := by
  have h0 := below_alloc' w (.cells #[.int .i64 ix, .int .i64 ep, .slice cp cn cc, .slice dp dn dc] 25)
  have hA0 := At.new 25 w #[.int .i64 ix, .int .i64 ep, .slice cp cn cc, .slice dp dn dc]
  have s1 : (w.alloc (.cells #[.int .i64 ix, .int .i64 ep, .slice cp cn cc, .slice dp dn dc] 25)).heap.size = w.heap.size + 1 := by simp
  generalize hW1 : (w.alloc (.cells #[.int .i64 ix, .int .i64 ep, .slice cp cn cc, .slice dp dn dc] 25)) = W1 at *
  have h1 := below_alloc' W1 (.cells #[.int .u8 (bt (q) 0), .int .u8 (bt (q) 1), .int .u8 (bt (q) 2), .int .u8 (bt (q) 3), .int .u8 (bt (q) 4), .int .u8 (bt (q) 5), .int .u8 (bt (q) 6), .int .u8 (bt (q) 7)] 28)
  have hK0 := At.new 28 W1 #[.int .u8 (bt (q) 0), .int .u8 (bt (q) 1), .int .u8 (bt (q) 2), .int .u8 (bt (q) 3), .int .u8 (bt (q) 4), .int .u8 (bt (q) 5), .int .u8 (bt (q) 6), .int .u8 (bt (q) 7)]
  have s2 : (W1.alloc (.cells #[.int .u8 (bt (q) 0), .int .u8 (bt (q) 1), .int .u8 (bt (q) 2), .int .u8 (bt (q) 3), .int .u8 (bt (q) 4), .int .u8 (bt (q) 5), .int .u8 (bt (q) 6), .int .u8 (bt (q) 7)] 28)).heap.size = w.heap.size + 1 + 1 := by simp [s1]
  rw [s1] at hK0
  have hA1 := hA0.below h1
  generalize hWk : W1.alloc (.cells #[.int .u8 (bt (q) 0), .int .u8 (bt (q) 1), .int .u8 (bt (q) 2), .int .u8 (bt (q) 3), .int .u8 (bt (q) 4), .int .u8 (bt (q) 5), .int .u8 (bt (q) 6), .int .u8 (bt (q) 7)] 28) = Wk at *
  have h3 := h0.trans (h1.mono h0.size)
  have h2 := below_alloc' Wk (.cells #[.int .i64 rc, .int .i64 rq] 30)
  have hQ := At.new 30 Wk #[.int .i64 rc, .int .i64 rq]
  rw [s2] at hQ
  have hA := hA1.below h2
  have hK := hK0.below h2
  generalize hW2 : Wk.alloc (.cells #[.int .i64 rc, .int .i64 rq] 30) = W2 at *
  have HB := h3.trans (h2.mono h3.size)
  clear h0 h1 h2 h3 hA0 hA1 hK0
  have hsm := small_any ix ep cp cn cc C dp dn dc W2 (hC.below HB) hcn hdn
  go_enter Tryd.func3, Tryd.ntmps3
  go_wp2_with (refine wpList_load_row rfl 25 _ rfl w.heap.size rfl _ _ _ _ hA Tryd.underlying25 rfl infoTb ?_)
  refine hsm.mono ?_
  rintro e w3 ⟨⟨bb, rfl, hbb⟩, hb⟩
  clear hsm hW2
  replace HB := HB.trans (hb.mono HB.size)
  replace hA := hA.below hb
  replace hK := hK.below hb
  replace hQ := hQ.below hb
  clear hb
  cases bb with
  | false =>
    as_aux_lemma =>
      have hW := awake_any _ (hT.up HB)
      go_wp2_with fail
      refine hW.mono ?_
      rintro e w9 ⟨rfl, hb9⟩
      go_wp2_with fail
      go_ret
      exact ⟨rfl, HB.trans (hb9.mono HB.size)⟩
  | true =>
    as_aux_lemma =>
      obtain ⟨hcn1, hdn1⟩ := hbb rfl
      clear hbb
      have hsh := shortL_any (hr.below HB) hnn
      go_wp2_with fail
      refine hsh.mono ?_
      rintro e w4 ⟨⟨bb, rfl, hbb⟩, hb⟩
      clear hsh
      replace HB := HB.trans (hb.mono HB.size)
      replace hA := hA.below hb
      replace hK := hK.below hb
      replace hQ := hQ.below hb
      clear hb
      cases bb with
      | false =>
        have hW := awake_any _ (hT.up HB)
        go_wp2_with fail
        refine hW.mono ?_
        rintro e w9 ⟨rfl, hb9⟩
        go_wp2_with fail
        go_ret
        exact ⟨rfl, HB.trans (hb9.mono HB.size)⟩
      | true =>
        as_aux_lemma =>
          have hn1 := hbb rfl
          clear hbb
          have hch := check_any ix ep cp cn cc dp dn dc C D w4 (hC.below HB) (hD.below HB) (by omega) hck (hT.up HB)
          have hcz : (chkE ix ep C D = 0) ∨ ¬ (chkE ix ep C D = 0) := Classical.em _
          go_wp2_with (refine wpList_load_rowG rfl 25 _ rfl w.heap.size rfl _ _ _ _ hA Tryd.underlying25 rfl infoTb ?_)
          refine hch.mono ?_
          rintro e w5 ⟨rfl, hb⟩
          clear hch
          replace HB := HB.trans (hb.mono HB.size)
          replace hA := hA.below hb
          replace hK := hK.below hb
          replace hQ := hQ.below hb
          clear hb
          rcases hcz with hcz | hcz
          · as_aux_lemma =>
              have hmd := madeX (fun _ => 0) 1 ix ep cp cn cc dp dn dc C D w5 (hC.below HB) (hD.below HB) (by omega) hck (hT.up HB) (by omega) hcz p n c ds (hr.below HB) hds hnn
              have hkn := (frS_g2 hcz fun c hc => (hck c hc).1).runs hds
              have hkl5 : w.heap.size + 1 < w5.heap.size := At.lt hK
              rw [hcz]
              generalize (frS ix ep C D).runs ds = s at *
              go_wp2_with (refine wpList_load_row rfl 25 _ rfl w.heap.size rfl _ _ _ _ hA Tryd.underlying25 rfl infoTb ?_)
              refine hmd.mono ?_
              rintro e w6 ⟨g, rfl, hb, hst, hS⟩
              clear hmd hcz
              have hM := (MO.none w w5 HB).step (i := 1) (by decide) hst
              replace HB := HB.trans (hb.mono HB.size)
              replace hA := hA.below hb
              replace hK := hK.below hb
              replace hQ := hQ.below hb
              clear hb hst
              have hkz : mkO (fun _ => 0) w5 w6 1 (w.heap.size + 1) = 0 := by rw [mkO_old hkl5]
              clear hkl5
              generalize (mkO (fun _ => 0) w5 w6 1) = o1 at *
              clear hA hC hD hck hcn hdn hcn1 hdn1 hn1 hr hds hnn hkz
              have hW := tabX hS hkn.gd.kn
              go_wp2_with fail
              refine hW.mono ?_
              rintro e w7 ⟨v, rfl, ⟨pc, cc, pd, cd, rfl, hCs, hDs⟩, hb⟩
              clear hW
              replace hM := hM.below hb
              replace HB := HB.trans (hb.mono HB.size)
              replace hS := hS.below hb
              replace hK := hK.below hb
              replace hQ := hQ.below hb
              clear hb
              have hW := commitX hS
              go_wp2_with fail
              refine hW.mono ?_
              rintro e w8 ⟨rfl, hb⟩
              clear hW
              replace hM := hM.below hb
              replace hCs := hCs.below hb
              replace hDs := hDs.below hb
              replace HB := HB.trans (hb.mono HB.size)
              replace hS := hS.below hb
              replace hK := hK.below hb
              replace hQ := hQ.below hb
              clear hb
              have hk8 := At.lt hK
              have hq8 := At.lt hQ
              have hX0 := At.new 43 w8 #[.int .i64 s.low.ix, .int .i64 s.low.ep, .slice pc s.low.cs.length cc, .slice pd (donL s.low 4).length cd, .slice none 0 0, .int .i64 s.com]
              have hb := below_alloc' w8 (.cells #[.int .i64 s.low.ix, .int .i64 s.low.ep, .slice pc s.low.cs.length cc, .slice pd (donL s.low 4).length cd, .slice none 0 0, .int .i64 s.com] 43)
              have hgx : ∀ k, o1 k ≠ 0 → k < w8.heap.size := fun k hk => (hM.pos k hk).2
              have hW := lowX (hS.below hb)
              go_wp2_with fail
              generalize w8.alloc (.cells #[.int .i64 s.low.ix, .int .i64 s.low.ep, .slice pc s.low.cs.length cc, .slice pd (donL s.low 4).length cd, .slice none 0 0, .int .i64 s.com] 43) = w9 at *
              refine hW.mono ?_
              rintro e w10 ⟨rfl, hb2⟩
              clear hW
              replace hb := hb.trans (hb2.mono hb.size)
              replace hX0 := hX0.below hb2
              replace hM := hM.below hb
              have hCl := fun h0 a ha => hCs.lt (a := a) h0 ha
              have hDl := fun h0 a ha => hDs.lt (a := a) h0 ha
              replace hCs := hCs.below hb
              replace hDs := hDs.below hb
              have hgs := hb.size
              replace HB := HB.trans (hb.mono HB.size)
              replace hS := hS.below hb
              replace hK := hK.below hb
              replace hQ := hQ.below hb
              clear hb2 hb
              generalize w8.heap.size = gx at *
              have hgl := At.lt hX0
              have hW := behY hS (k := 0) (Nat.zero_le _) (x := s.low.ix) (by simp)
              rw [Nat.sub_zero, List.drop_zero] at hW
              go_wp2_with fail
              refine hW.mono ?_
              rintro e w11 ⟨p0, c0, rfl, hO, hb⟩
              clear hW
              replace hX0 := hX0.below hb
              replace hM := hM.below hb
              replace hCs := hCs.below hb
              replace hDs := hDs.below hb
              replace HB := HB.trans (hb.mono HB.size)
              replace hS := hS.below hb
              replace hK := hK.below hb
              replace hQ := hQ.below hb
              have hz4 := At.cell hX0 4
              have hf4 := At.free hX0 4
              simp only [List.getElem?_toArray, List.getElem?_cons_zero, List.getElem?_cons_succ] at hz4
              have hz : o1 gx = 0 := Classical.byContradiction fun e => by have := hgx gx e; omega
              have hst : Stp o1 0 w11 (w11.setCell ⟨gx, 4, none⟩ (.slice p0 s.tail.length c0)) := (Ch.setCell w11 ⟨gx, 4, none⟩ (.slice p0 s.tail.length c0)).mono fun k _ e => by subst e; exact hz
              have hS1 := hS.other hst (by decide)
              have hX1 : At 43 (w11.setCell ⟨gx, 4, none⟩ (.slice p0 s.tail.length c0)) gx #[.int .i64 s.low.ix, .int .i64 s.low.ep, .slice pc s.low.cs.length cc, .slice pd (donL s.low 4).length cd, .slice p0 s.tail.length c0, .int .i64 s.com] := (At.setC hX0 4 (.slice p0 s.tail.length c0) :)
              have hcs := Ch.setCell w11 ⟨gx, 4, none⟩ (.slice p0 s.tail.length c0)
              have hg0 := hb.size
              have hX : AX (w11.setCell ⟨gx, 4, none⟩ (.slice p0 s.tail.length c0)) gx s := by
                have hdl := donL_len s.low 4
                have hkl := hkn.gd.kn.low
                have hfw := hS.inv.few
                refine ⟨pc, cc, pd, cd, p0, c0, ⟨hX1, hCs.ch hcs fun h0 a ha e => ?_, hDs.ch hcs fun h0 a ha e => ?_, hO.rd.ch hcs fun h0 a ha e => ?_, by omega, by omega, by omega⟩⟩
                · have := hCl h0 a ha
                  simp only at e
                  omega
                · have := hDl h0 a ha
                  simp only at e
                  omega
                · have := hO.blk (by rw [hO.len]; exact h0) ha
                  simp only at e
                  omega
              have hK1 := At.same hK (heap_setC w11 gx 4 _ (.slice p0 s.tail.length c0) (by omega))
              have hQ1 := At.same hQ (heap_setC w11 gx 4 _ (.slice p0 s.tail.length c0) (by omega))
              have HB1 : Below w.heap.size w (w11.setCell ⟨gx, 4, none⟩ (.slice p0 s.tail.length c0)) := HB.trans (hcs.below HB.size fun k hk => by simp only at hk; omega)
              clear hb hX0 hM hCs hDs hO hz hst hX1 hcs hg0 hgs hgx hCl hDl hS hK hQ HB hk8 hq8 hgl
              obtain ⟨wz, hwz⟩ : ∃ wz, w11.setCell ⟨gx, 4, none⟩ (.slice p0 s.tail.length c0) = wz := ⟨_, rfl⟩
              rw [hwz] at hS1 hX hK1 hQ1 HB1
              generalize mkO o1 w11 _ 0 = o2 at *
              have hS := hS1
              have hK := hK1
              have hQ := hQ1
              have HB := HB1
              clear hS1 hK1 hQ1 HB1
              have hW := epochX hS qi
              go_wp2_with (rw [hwz])
              clear hz4 hf4 hwz
              refine hW.mono ?_
              rintro e w12 ⟨rfl, hb⟩
              clear hW
              replace HB := HB.trans (hb.mono HB.size)
              replace hS := hS.below hb
              replace hK := hK.below hb
              replace hQ := hQ.below hb
              replace hX := hX.below hb
              clear hb
              have hW := axEpoch hX hS.inv qi
              go_wp2_with fail
              refine hW.mono ?_
              rintro e w13 ⟨rfl, hb⟩
              clear hW
              replace HB := HB.trans (hb.mono HB.size)
              replace hS := hS.below hb
              replace hK := hK.below hb
              replace hQ := hQ.below hb
              replace hX := hX.below hb
              clear hb
              have hW := knownX hS rc rq
              have z0 := At.cell hQ 0
              have z1 := At.cell hQ 1
              simp only [List.getElem?_toArray, List.getElem?_cons_zero, List.getElem?_cons_succ] at z0 z1
              go_wp2_with fail
              refine hW.mono ?_
              rintro e w14 ⟨rfl, hb⟩
              clear hW z0 z1
              replace HB := HB.trans (hb.mono HB.size)
              replace hS := hS.below hb
              replace hK := hK.below hb
              replace hQ := hQ.below hb
              replace hX := hX.below hb
              clear hb
              have hW := axKnown hX hkn rc rq
              have z0 := At.cell hQ 0
              have z1 := At.cell hQ 1
              simp only [List.getElem?_toArray, List.getElem?_cons_zero, List.getElem?_cons_succ] at z0 z1
              go_wp2_with fail
              refine hW.mono ?_
              rintro e w15 ⟨rfl, hb⟩
              clear hW z0 z1
              replace HB := HB.trans (hb.mono HB.size)
              replace hS := hS.below hb
              replace hK := hK.below hb
              replace hQ := hQ.below hb
              replace hX := hX.below hb
              clear hb
              have hW := behA hS qi ver
              go_wp2_with fail
              refine hW.mono ?_
              rintro e w16 ⟨p1, c1, rfl, hr1, hb⟩
              clear hW
              replace HB := HB.trans (hb.mono HB.size)
              replace hS := hS.below hb
              replace hK := hK.below hb
              replace hQ := hQ.below hb
              replace hX := hX.below hb
              clear hb
              have hW := axBehind hX hS.inv hkn qi ver
              go_wp2_with fail
              refine hW.mono ?_
              rintro e w17 ⟨p2, c2, rfl, hr2, hb⟩
              clear hW
              replace hr1 := hr1.below hb
              replace HB := HB.trans (hb.mono HB.size)
              replace hS := hS.below hb
              replace hK := hK.below hb
              replace hQ := hQ.below hb
              replace hX := hX.below hb
              clear hb
              have hW := ofX hS q hq ver
              have k0 := At.cell hK 0
              have k1 := At.cell hK 1
              have k2 := At.cell hK 2
              have k3 := At.cell hK 3
              have k4 := At.cell hK 4
              have k5 := At.cell hK 5
              have k6 := At.cell hK 6
              have k7 := At.cell hK 7
              simp only [List.getElem?_toArray, List.getElem?_cons_zero, List.getElem?_cons_succ] at k0 k1 k2 k3 k4 k5 k6 k7
              go_wp2_with fail
              refine hW.mono ?_
              rintro e w18 ⟨rfl, hb⟩
              clear hW k0 k1 k2 k3 k4 k5 k6 k7
              replace HB := HB.trans (hb.mono HB.size)
              replace hS := hS.below hb
              replace hK := hK.below hb
              replace hQ := hQ.below hb
              replace hX := hX.below hb

              replace hr1 := hr1.below hb
              replace hr2 := hr2.below hb
              clear hb
              obtain ⟨t, ⟨htt, htf⟩, hOf⟩ := axOf hX hkn q hq ver
              have hW := hOf _ (Below.refl _ _)
              clear hOf
              have k0 := At.cell hK 0
              have k1 := At.cell hK 1
              have k2 := At.cell hK 2
              have k3 := At.cell hK 3
              have k4 := At.cell hK 4
              have k5 := At.cell hK 5
              have k6 := At.cell hK 6
              have k7 := At.cell hK 7
              simp only [List.getElem?_toArray, List.getElem?_cons_zero, List.getElem?_cons_succ] at k0 k1 k2 k3 k4 k5 k6 k7
              go_wp2_with fail
              refine hW.mono ?_
              rintro e wr ⟨rfl, hb⟩
              clear hW k0 k1 k2 k3 k4 k5 k6 k7
              replace hr1 := hr1.below hb
              replace hr2 := hr2.below hb
              replace HB := HB.trans (hb.mono HB.size)
              replace hS := hS.below hb
              replace hK := hK.below hb
              replace hQ := hQ.below hb
              replace hX := hX.below hb
              clear hb
              generalize (s.ofS q ver).1 = m1 at *
              generalize (s.ofS q ver).2 = mb at *
              generalize (s.epP qi).1 = ep1 at *
              generalize (s.epP qi).2 = ep2 at *
              generalize (s.knw rc rq).1 = kn1 at *
              generalize (s.knw rc rq).2 = kn2 at *
              cases mb with
              | true =>
                as_aux_lemma =>
                  obtain rfl := htt rfl
                  clear htt htf
                  have hCm := fun W (h : Bl wr W) => commitX (hS.below h)
                  have hTV := hT.up HB
                  have hg2 := hkn
                  have hi := hS.inv
                  have hc1 := fun W (h : Bl wr W) => cleanX (hS.below h) q hq
                  have ht1 := fun W (h : Bl wr W) => topX (hS.below h) q hq
                  rw [show s.low.adds s.tail = (s.low.adds (s.tail.take s.tail.length)) from by rw [List.take_length]] at ht1
                  have hU1 := fun W (h : Below wr.heap.size wr W) => axUp (hX.below h) hi hg2 (j := (s.com - s.low.ix).toNat) (i := s.com) (by have := hi.lo; have := hi.hi; omega) (by have := hi.lo; omega) (Or.inr (by have := hi.lo; omega))
                  have hU2 := fun W (h : Below wr.heap.size wr W) => axUp (hX.below h) hi hg2 (j := s.tail.length) (i := 1099511627776) (Nat.le_refl _) (by have := hi.ix1; omega) (Or.inl rfl)
                  have hL1 := fun (v : Value) (W : World) (h : TabR W v (s.low.adds (s.tail.take (s.com - s.low.ix).toNat))) => cellX h (hg2.front _) q hq
                  have hL2 := fun (v : Value) (W : World) (h : TabR W v (s.low.adds (s.tail.take s.tail.length))) => cellX h (hg2.front _) q hq
                  have hbl : (s.bhP qi ver).1.length ≤ 1000 := by
                    unfold Sh.bhP
                    split
                    · show (s.beh qi ver).length ≤ 1000
                      unfold Sh.beh
                      rw [List.length_take, List.length_drop]
                      have := hi.few
                      omega
                    · exact Nat.zero_le _
                  have hec : ∀ W, (binOp .eql 53 (.agg #[.int .u8 (bt ((lookC (s.low.adds (s.tail.take (s.com - s.low.ix).toNat)).cs q).getD .z0).k 0), .int .u8 (bt ((lookC (s.low.adds (s.tail.take (s.com - s.low.ix).toNat)).cs q).getD .z0).k 1), .int .u8 (bt ((lookC (s.low.adds (s.tail.take (s.com - s.low.ix).toNat)).cs q).getD .z0).k 2), .int .u8 (bt ((lookC (s.low.adds (s.tail.take (s.com - s.low.ix).toNat)).cs q).getD .z0).k 3), .int .u8 (bt ((lookC (s.low.adds (s.tail.take (s.com - s.low.ix).toNat)).cs q).getD .z0).k 4), .int .u8 (bt ((lookC (s.low.adds (s.tail.take (s.com - s.low.ix).toNat)).cs q).getD .z0).k 5), .int .u8 (bt ((lookC (s.low.adds (s.tail.take (s.com - s.low.ix).toNat)).cs q).getD .z0).k 6), .int .u8 (bt ((lookC (s.low.adds (s.tail.take (s.com - s.low.ix).toNat)).cs q).getD .z0).k 7), .int .i64 ((lookC (s.low.adds (s.tail.take (s.com - s.low.ix).toNat)).cs q).getD .z0).v, .string ((lookC (s.low.adds (s.tail.take (s.com - s.low.ix).toNat)).cs q).getD .z0).s]) (.agg #[.int .u8 (bt ((lookC (s.low.adds (s.tail.take (s.com - s.low.ix).toNat)).cs q).getD .z0).k 0), .int .u8 (bt ((lookC (s.low.adds (s.tail.take (s.com - s.low.ix).toNat)).cs q).getD .z0).k 1), .int .u8 (bt ((lookC (s.low.adds (s.tail.take (s.com - s.low.ix).toNat)).cs q).getD .z0).k 2), .int .u8 (bt ((lookC (s.low.adds (s.tail.take (s.com - s.low.ix).toNat)).cs q).getD .z0).k 3), .int .u8 (bt ((lookC (s.low.adds (s.tail.take (s.com - s.low.ix).toNat)).cs q).getD .z0).k 4), .int .u8 (bt ((lookC (s.low.adds (s.tail.take (s.com - s.low.ix).toNat)).cs q).getD .z0).k 5), .int .u8 (bt ((lookC (s.low.adds (s.tail.take (s.com - s.low.ix).toNat)).cs q).getD .z0).k 6), .int .u8 (bt ((lookC (s.low.adds (s.tail.take (s.com - s.low.ix).toNat)).cs q).getD .z0).k 7), .int .i64 ((lookC (s.low.adds (s.tail.take (s.com - s.low.ix).toNat)).cs q).getD .z0).v, .string ((lookC (s.low.adds (s.tail.take (s.com - s.low.ix).toNat)).cs q).getD .z0).s])).run Tryd.prog W = .ok (.bool true) W := fun W => by
                    have h := eql_cel ((lookC (s.low.adds (s.tail.take (s.com - s.low.ix).toNat)).cs q).getD .z0) ((lookC (s.low.adds (s.tail.take (s.com - s.low.ix).toNat)).cs q).getD .z0) W
                    rw [eqCe_self] at h
                    exact h
                  have hgc : ∀ W, (eqGuard .eql 53 (.tmp 160) (.tmp 168) (.agg #[.int .u8 (bt ((lookC (s.low.adds (s.tail.take (s.com - s.low.ix).toNat)).cs q).getD .z0).k 0), .int .u8 (bt ((lookC (s.low.adds (s.tail.take (s.com - s.low.ix).toNat)).cs q).getD .z0).k 1), .int .u8 (bt ((lookC (s.low.adds (s.tail.take (s.com - s.low.ix).toNat)).cs q).getD .z0).k 2), .int .u8 (bt ((lookC (s.low.adds (s.tail.take (s.com - s.low.ix).toNat)).cs q).getD .z0).k 3), .int .u8 (bt ((lookC (s.low.adds (s.tail.take (s.com - s.low.ix).toNat)).cs q).getD .z0).k 4), .int .u8 (bt ((lookC (s.low.adds (s.tail.take (s.com - s.low.ix).toNat)).cs q).getD .z0).k 5), .int .u8 (bt ((lookC (s.low.adds (s.tail.take (s.com - s.low.ix).toNat)).cs q).getD .z0).k 6), .int .u8 (bt ((lookC (s.low.adds (s.tail.take (s.com - s.low.ix).toNat)).cs q).getD .z0).k 7), .int .i64 ((lookC (s.low.adds (s.tail.take (s.com - s.low.ix).toNat)).cs q).getD .z0).v, .string ((lookC (s.low.adds (s.tail.take (s.com - s.low.ix).toNat)).cs q).getD .z0).s]) (.agg #[.int .u8 (bt ((lookC (s.low.adds (s.tail.take (s.com - s.low.ix).toNat)).cs q).getD .z0).k 0), .int .u8 (bt ((lookC (s.low.adds (s.tail.take (s.com - s.low.ix).toNat)).cs q).getD .z0).k 1), .int .u8 (bt ((lookC (s.low.adds (s.tail.take (s.com - s.low.ix).toNat)).cs q).getD .z0).k 2), .int .u8 (bt ((lookC (s.low.adds (s.tail.take (s.com - s.low.ix).toNat)).cs q).getD .z0).k 3), .int .u8 (bt ((lookC (s.low.adds (s.tail.take (s.com - s.low.ix).toNat)).cs q).getD .z0).k 4), .int .u8 (bt ((lookC (s.low.adds (s.tail.take (s.com - s.low.ix).toNat)).cs q).getD .z0).k 5), .int .u8 (bt ((lookC (s.low.adds (s.tail.take (s.com - s.low.ix).toNat)).cs q).getD .z0).k 6), .int .u8 (bt ((lookC (s.low.adds (s.tail.take (s.com - s.low.ix).toNat)).cs q).getD .z0).k 7), .int .i64 ((lookC (s.low.adds (s.tail.take (s.com - s.low.ix).toNat)).cs q).getD .z0).v, .string ((lookC (s.low.adds (s.tail.take (s.com - s.low.ix).toNat)).cs q).getD .z0).s])).run Tryd.prog W = .ok () W := fun W => by go_simp
                  have het : ∀ W, (binOp .eql 53 (.agg #[.int .u8 (bt ((lookC (s.low.adds (s.tail.take s.tail.length)).cs q).getD .z0).k 0), .int .u8 (bt ((lookC (s.low.adds (s.tail.take s.tail.length)).cs q).getD .z0).k 1), .int .u8 (bt ((lookC (s.low.adds (s.tail.take s.tail.length)).cs q).getD .z0).k 2), .int .u8 (bt ((lookC (s.low.adds (s.tail.take s.tail.length)).cs q).getD .z0).k 3), .int .u8 (bt ((lookC (s.low.adds (s.tail.take s.tail.length)).cs q).getD .z0).k 4), .int .u8 (bt ((lookC (s.low.adds (s.tail.take s.tail.length)).cs q).getD .z0).k 5), .int .u8 (bt ((lookC (s.low.adds (s.tail.take s.tail.length)).cs q).getD .z0).k 6), .int .u8 (bt ((lookC (s.low.adds (s.tail.take s.tail.length)).cs q).getD .z0).k 7), .int .i64 ((lookC (s.low.adds (s.tail.take s.tail.length)).cs q).getD .z0).v, .string ((lookC (s.low.adds (s.tail.take s.tail.length)).cs q).getD .z0).s]) (.agg #[.int .u8 (bt ((lookC (s.low.adds (s.tail.take s.tail.length)).cs q).getD .z0).k 0), .int .u8 (bt ((lookC (s.low.adds (s.tail.take s.tail.length)).cs q).getD .z0).k 1), .int .u8 (bt ((lookC (s.low.adds (s.tail.take s.tail.length)).cs q).getD .z0).k 2), .int .u8 (bt ((lookC (s.low.adds (s.tail.take s.tail.length)).cs q).getD .z0).k 3), .int .u8 (bt ((lookC (s.low.adds (s.tail.take s.tail.length)).cs q).getD .z0).k 4), .int .u8 (bt ((lookC (s.low.adds (s.tail.take s.tail.length)).cs q).getD .z0).k 5), .int .u8 (bt ((lookC (s.low.adds (s.tail.take s.tail.length)).cs q).getD .z0).k 6), .int .u8 (bt ((lookC (s.low.adds (s.tail.take s.tail.length)).cs q).getD .z0).k 7), .int .i64 ((lookC (s.low.adds (s.tail.take s.tail.length)).cs q).getD .z0).v, .string ((lookC (s.low.adds (s.tail.take s.tail.length)).cs q).getD .z0).s])).run Tryd.prog W = .ok (.bool true) W := fun W => by
                    have h := eql_cel ((lookC (s.low.adds (s.tail.take s.tail.length)).cs q).getD .z0) ((lookC (s.low.adds (s.tail.take s.tail.length)).cs q).getD .z0) W
                    rw [eqCe_self] at h
                    exact h
                  have hgt : ∀ W, (eqGuard .eql 53 (.tmp 174) (.tmp 178) (.agg #[.int .u8 (bt ((lookC (s.low.adds (s.tail.take s.tail.length)).cs q).getD .z0).k 0), .int .u8 (bt ((lookC (s.low.adds (s.tail.take s.tail.length)).cs q).getD .z0).k 1), .int .u8 (bt ((lookC (s.low.adds (s.tail.take s.tail.length)).cs q).getD .z0).k 2), .int .u8 (bt ((lookC (s.low.adds (s.tail.take s.tail.length)).cs q).getD .z0).k 3), .int .u8 (bt ((lookC (s.low.adds (s.tail.take s.tail.length)).cs q).getD .z0).k 4), .int .u8 (bt ((lookC (s.low.adds (s.tail.take s.tail.length)).cs q).getD .z0).k 5), .int .u8 (bt ((lookC (s.low.adds (s.tail.take s.tail.length)).cs q).getD .z0).k 6), .int .u8 (bt ((lookC (s.low.adds (s.tail.take s.tail.length)).cs q).getD .z0).k 7), .int .i64 ((lookC (s.low.adds (s.tail.take s.tail.length)).cs q).getD .z0).v, .string ((lookC (s.low.adds (s.tail.take s.tail.length)).cs q).getD .z0).s]) (.agg #[.int .u8 (bt ((lookC (s.low.adds (s.tail.take s.tail.length)).cs q).getD .z0).k 0), .int .u8 (bt ((lookC (s.low.adds (s.tail.take s.tail.length)).cs q).getD .z0).k 1), .int .u8 (bt ((lookC (s.low.adds (s.tail.take s.tail.length)).cs q).getD .z0).k 2), .int .u8 (bt ((lookC (s.low.adds (s.tail.take s.tail.length)).cs q).getD .z0).k 3), .int .u8 (bt ((lookC (s.low.adds (s.tail.take s.tail.length)).cs q).getD .z0).k 4), .int .u8 (bt ((lookC (s.low.adds (s.tail.take s.tail.length)).cs q).getD .z0).k 5), .int .u8 (bt ((lookC (s.low.adds (s.tail.take s.tail.length)).cs q).getD .z0).k 6), .int .u8 (bt ((lookC (s.low.adds (s.tail.take s.tail.length)).cs q).getD .z0).k 7), .int .i64 ((lookC (s.low.adds (s.tail.take s.tail.length)).cs q).getD .z0).v, .string ((lookC (s.low.adds (s.tail.take s.tail.length)).cs q).getD .z0).s])).run Tryd.prog W = .ok () W := fun W => by go_simp
                  generalize Value.agg #[.int .u8 (bt ((lookC (s.low.adds (s.tail.take (s.com - s.low.ix).toNat)).cs q).getD .z0).k 0), .int .u8 (bt ((lookC (s.low.adds (s.tail.take (s.com - s.low.ix).toNat)).cs q).getD .z0).k 1), .int .u8 (bt ((lookC (s.low.adds (s.tail.take (s.com - s.low.ix).toNat)).cs q).getD .z0).k 2), .int .u8 (bt ((lookC (s.low.adds (s.tail.take (s.com - s.low.ix).toNat)).cs q).getD .z0).k 3), .int .u8 (bt ((lookC (s.low.adds (s.tail.take (s.com - s.low.ix).toNat)).cs q).getD .z0).k 4), .int .u8 (bt ((lookC (s.low.adds (s.tail.take (s.com - s.low.ix).toNat)).cs q).getD .z0).k 5), .int .u8 (bt ((lookC (s.low.adds (s.tail.take (s.com - s.low.ix).toNat)).cs q).getD .z0).k 6), .int .u8 (bt ((lookC (s.low.adds (s.tail.take (s.com - s.low.ix).toNat)).cs q).getD .z0).k 7), .int .i64 ((lookC (s.low.adds (s.tail.take (s.com - s.low.ix).toNat)).cs q).getD .z0).v, .string ((lookC (s.low.adds (s.tail.take (s.com - s.low.ix).toNat)).cs q).getD .z0).s] = tvc at hc1 hL1 hec hgc
                  generalize Value.agg #[.int .u8 (bt ((lookC (s.low.adds (s.tail.take s.tail.length)).cs q).getD .z0).k 0), .int .u8 (bt ((lookC (s.low.adds (s.tail.take s.tail.length)).cs q).getD .z0).k 1), .int .u8 (bt ((lookC (s.low.adds (s.tail.take s.tail.length)).cs q).getD .z0).k 2), .int .u8 (bt ((lookC (s.low.adds (s.tail.take s.tail.length)).cs q).getD .z0).k 3), .int .u8 (bt ((lookC (s.low.adds (s.tail.take s.tail.length)).cs q).getD .z0).k 4), .int .u8 (bt ((lookC (s.low.adds (s.tail.take s.tail.length)).cs q).getD .z0).k 5), .int .u8 (bt ((lookC (s.low.adds (s.tail.take s.tail.length)).cs q).getD .z0).k 6), .int .u8 (bt ((lookC (s.low.adds (s.tail.take s.tail.length)).cs q).getD .z0).k 7), .int .i64 ((lookC (s.low.adds (s.tail.take s.tail.length)).cs q).getD .z0).v, .string ((lookC (s.low.adds (s.tail.take s.tail.length)).cs q).getD .z0).s] = tvt at ht1 hL2 het hgt
                  clear hg2 hi hkn
                  have hS0 : Bl wr wr.drew := (Below.refl _ _).drew
                  go_wp2_with fail
                  dsimp only [List.append_eq, List.cons_append, List.nil_append]
                  refine wp_region_det [0, 1, 2, 3, 4, 5, 6, 7, 8, 9, 10, 11, 12, 13, 14, 15, 16, 17, 18, 19, 20, 21, 22, 23, 24, 25, 26, 27, 28, 29, 30, 31, 32, 33, 34, 35, 36, 37, 38, 39, 40, 41, 42, 43, 44, 45, 46, 48, 50, 51, 52, 53, 54, 55, 56, 58, 60, 61, 62, 63, 64, 65] (Bl wr) (Bl wr) (by kernel_rfl) hS0 ?_
                  refine wpDet_take ?vW0 (Bl.stays wr) (fun _ h => h) (i := 0) rfl (by kernel_rfl) (by kernel_rfl) (by kernel_rfl) (by kernel_rfl) (fun _ _ _ h => h) (Gives.value (by rfl) ?yW0) ?rW0
                  case yW0 => (intro w' hSw; (try dsimp only at hSw); go_simp; try with_reducible rfl)
                  (try simp only [Act.put, List.getElem_toArray, List.getElem_cons_zero, List.getElem_cons_succ, List.setIfInBounds_toArray, List.set_cons_zero, List.set_cons_succ])
                  refine wpDet_take ?vW1 (Bl.stays wr) (fun _ h => h) (i := 1) rfl (by kernel_rfl) (by kernel_rfl) (by kernel_rfl) (by kernel_rfl) (fun _ _ _ h => h) (Gives.value (by rfl) ?yW1) ?rW1
                  case yW1 => (intro w' hSw; (try dsimp only at hSw); go_simp; try with_reducible rfl)
                  (try simp only [Act.put, List.getElem_toArray, List.getElem_cons_zero, List.getElem_cons_succ, List.setIfInBounds_toArray, List.set_cons_zero, List.set_cons_succ])
                  refine wpDet_take ?vW2 (Bl.stays wr) (fun _ h => h) (i := 2) rfl (by kernel_rfl) (by kernel_rfl) (by kernel_rfl) (by kernel_rfl) (fun _ _ _ h => h) (Gives.value (by rfl) ?yW2) ?rW2
                  case yW2 => (intro w' hSw; (try dsimp only at hSw); go_simp; try with_reducible rfl)
                  (try simp only [Act.put, List.getElem_toArray, List.getElem_cons_zero, List.getElem_cons_succ, List.setIfInBounds_toArray, List.set_cons_zero, List.set_cons_succ])
                  refine wpDet_take ?vW3 (Bl.stays wr) (fun _ h => h) (i := 3) rfl (by kernel_rfl) (by kernel_rfl) (by kernel_rfl) (by kernel_rfl) (fun _ _ _ h => h) (Gives.value (by rfl) ?yW3) ?rW3
                  case yW3 => (intro w' hSw; (try dsimp only at hSw); go_simp; try with_reducible rfl)
                  (try simp only [Act.put, List.getElem_toArray, List.getElem_cons_zero, List.getElem_cons_succ, List.setIfInBounds_toArray, List.set_cons_zero, List.set_cons_succ])
                  refine wpDet_take ?vW4 (Bl.stays wr) (fun _ h => h) (i := 4) rfl (by kernel_rfl) (by kernel_rfl) (by kernel_rfl) (by kernel_rfl) (fun _ _ _ h => h) (Gives.value (by rfl) ?yW4) ?rW4
                  case yW4 => (intro w' hSw; (try dsimp only at hSw); go_simp; try with_reducible rfl)
                  (try simp only [Act.put, List.getElem_toArray, List.getElem_cons_zero, List.getElem_cons_succ, List.setIfInBounds_toArray, List.set_cons_zero, List.set_cons_succ])
                  refine wpDet_take ?vW5 (Bl.stays wr) (fun _ h => h) (i := 5) rfl (by kernel_rfl) (by kernel_rfl) (by kernel_rfl) (by kernel_rfl) (fun _ _ _ h => h) (Gives.value (by rfl) ?yW5) ?rW5
                  case yW5 => (intro w' hSw; (try dsimp only at hSw); go_simp; try with_reducible rfl)
                  (try simp only [Act.put, List.getElem_toArray, List.getElem_cons_zero, List.getElem_cons_succ, List.setIfInBounds_toArray, List.set_cons_zero, List.set_cons_succ])
                  refine wpDet_take ?vW6 (Bl.stays wr) (fun _ h => h) (i := 6) rfl (by kernel_rfl) (by kernel_rfl) (by kernel_rfl) (by kernel_rfl) (fun _ _ _ h => h) (Gives.value (by rfl) ?yW6) ?rW6
                  case yW6 => (intro w' hSw; (try dsimp only at hSw); go_simp; try with_reducible rfl)
                  (try simp only [Act.put, List.getElem_toArray, List.getElem_cons_zero, List.getElem_cons_succ, List.setIfInBounds_toArray, List.set_cons_zero, List.set_cons_succ])
                  refine wpDet_take ?vW7 (Bl.stays wr) (fun _ h => h) (i := 7) rfl (by kernel_rfl) (by kernel_rfl) (by kernel_rfl) (by kernel_rfl) (fun _ _ _ h => h) (Gives.value (by rfl) ?yW7) ?rW7
                  case yW7 => (intro w' hSw; (try dsimp only at hSw); go_simp; try with_reducible rfl)
                  (try simp only [Act.put, List.getElem_toArray, List.getElem_cons_zero, List.getElem_cons_succ, List.setIfInBounds_toArray, List.set_cons_zero, List.set_cons_succ])
                  refine wpDet_take ?vW8 (Bl.stays wr) (fun _ h => h) (i := 8) rfl (by kernel_rfl) (by kernel_rfl) (by kernel_rfl) (by kernel_rfl) (fun _ _ _ h => h) (Gives.value (by rfl) ?yW8) ?rW8
                  case yW8 => (intro w' hSw; (try dsimp only at hSw); go_simp; try with_reducible rfl)
                  (try simp only [Act.put, List.getElem_toArray, List.getElem_cons_zero, List.getElem_cons_succ, List.setIfInBounds_toArray, List.set_cons_zero, List.set_cons_succ])
                  refine wpDet_take ?vW9 (Bl.stays wr) (fun _ h => h) (i := 9) rfl (by kernel_rfl) (by kernel_rfl) (by kernel_rfl) (by kernel_rfl) (fun _ _ _ h => h) (Gives.value (by rfl) ?yW9) ?rW9
                  case yW9 => (intro w' hSw; (try dsimp only at hSw); go_simp; try with_reducible rfl)
                  (try simp only [Act.put, List.getElem_toArray, List.getElem_cons_zero, List.getElem_cons_succ, List.setIfInBounds_toArray, List.set_cons_zero, List.set_cons_succ])
                  refine wpDet_take ?vW10 (Bl.stays wr) (fun _ h => h) (i := 10) rfl (by kernel_rfl) (by kernel_rfl) (by kernel_rfl) (by kernel_rfl) (fun _ _ _ h => h) (Gives.value (by rfl) ?yW10) ?rW10
                  case yW10 => (intro w' hSw; (try dsimp only at hSw); go_simp; try with_reducible rfl)
                  (try simp only [Act.put, List.getElem_toArray, List.getElem_cons_zero, List.getElem_cons_succ, List.setIfInBounds_toArray, List.set_cons_zero, List.set_cons_succ])
                  refine wpDet_take ?vW11 (Bl.stays wr) (fun _ h => h) (i := 11) rfl (by kernel_rfl) (by kernel_rfl) (by kernel_rfl) (by kernel_rfl) (fun _ _ _ h => h) (Gives.value (by rfl) ?yW11) ?rW11
                  case yW11 => (intro w' hSw; (try dsimp only at hSw); go_simp; try with_reducible rfl)
                  (try simp only [Act.put, List.getElem_toArray, List.getElem_cons_zero, List.getElem_cons_succ, List.setIfInBounds_toArray, List.set_cons_zero, List.set_cons_succ])
                  refine wpDet_take ?vW12 (Bl.stays wr) (fun _ h => h) (i := 12) rfl (by kernel_rfl) (by kernel_rfl) (by kernel_rfl) (by kernel_rfl) (fun _ _ _ h => h) (Gives.value (by rfl) ?yW12) ?rW12
                  case yW12 => (intro w' hSw; (try dsimp only at hSw); go_simp; try with_reducible rfl)
                  (try simp only [Act.put, List.getElem_toArray, List.getElem_cons_zero, List.getElem_cons_succ, List.setIfInBounds_toArray, List.set_cons_zero, List.set_cons_succ])
                  refine wpDet_take ?vW13 (Bl.stays wr) (fun _ h => h) (i := 13) rfl (by kernel_rfl) (by kernel_rfl) (by kernel_rfl) (by kernel_rfl) (fun _ _ _ h => h) (Gives.value (by rfl) ?yW13) ?rW13
                  case yW13 => (intro w' hSw; (try dsimp only at hSw); go_simp; try with_reducible rfl)
                  (try simp only [Act.put, List.getElem_toArray, List.getElem_cons_zero, List.getElem_cons_succ, List.setIfInBounds_toArray, List.set_cons_zero, List.set_cons_succ])
                  refine wpDet_take ?vW14 (Bl.stays wr) (fun _ h => h) (i := 14) rfl (by kernel_rfl) (by kernel_rfl) (by kernel_rfl) (by kernel_rfl) (fun _ _ _ h => h) (Gives.value (by rfl) ?yW14) ?rW14
                  case yW14 => (intro w' hSw; (try dsimp only at hSw); go_simp; try with_reducible rfl)
                  (try simp only [Act.put, List.getElem_toArray, List.getElem_cons_zero, List.getElem_cons_succ, List.setIfInBounds_toArray, List.set_cons_zero, List.set_cons_succ])
                  refine wpDet_take ?vW15 (Bl.stays wr) (fun _ h => h) (i := 15) rfl (by kernel_rfl) (by kernel_rfl) (by kernel_rfl) (by kernel_rfl) (fun _ _ _ h => h) (Gives.value (by rfl) ?yW15) ?rW15
                  case yW15 => (intro w' hSw; (try dsimp only at hSw); go_simp; try with_reducible rfl)
                  (try simp only [Act.put, List.getElem_toArray, List.getElem_cons_zero, List.getElem_cons_succ, List.setIfInBounds_toArray, List.set_cons_zero, List.set_cons_succ])
                  refine wpDet_take ?vW16 (Bl.stays wr) (fun _ h => h) (i := 16) rfl (by kernel_rfl) (by kernel_rfl) (by kernel_rfl) (by kernel_rfl) (fun _ _ _ h => h) (Gives.value (by rfl) ?yW16) ?rW16
                  case yW16 => (intro w' hSw; (try dsimp only at hSw); go_simp; try with_reducible rfl)
                  (try simp only [Act.put, List.getElem_toArray, List.getElem_cons_zero, List.getElem_cons_succ, List.setIfInBounds_toArray, List.set_cons_zero, List.set_cons_succ])
                  refine wpDet_take ?vW17 (Bl.stays wr) (fun _ h => h) (i := 17) rfl (by kernel_rfl) (by kernel_rfl) (by kernel_rfl) (by kernel_rfl) (fun _ _ _ h => h) (Gives.value (by rfl) ?yW17) ?rW17
                  case yW17 => (intro w' hSw; (try dsimp only at hSw); go_simp; try with_reducible rfl)
                  (try simp only [Act.put, List.getElem_toArray, List.getElem_cons_zero, List.getElem_cons_succ, List.setIfInBounds_toArray, List.set_cons_zero, List.set_cons_succ])
                  refine wpDet_take ?vW18 (Bl.stays wr) (fun _ h => h) (i := 18) rfl (by kernel_rfl) (by kernel_rfl) (by kernel_rfl) (by kernel_rfl) (fun _ _ _ h => h) (Gives.value (by rfl) ?yW18) ?rW18
                  case yW18 => (intro w' hSw; (try dsimp only at hSw); go_simp; try with_reducible rfl)
                  (try simp only [Act.put, List.getElem_toArray, List.getElem_cons_zero, List.getElem_cons_succ, List.setIfInBounds_toArray, List.set_cons_zero, List.set_cons_succ])
                  refine wpDet_take ?vW19 (Bl.stays wr) (fun _ h => h) (i := 19) rfl (by kernel_rfl) (by kernel_rfl) (by kernel_rfl) (by kernel_rfl) (fun _ _ _ h => h) (Gives.value (by rfl) ?yW19) ?rW19
                  case yW19 => (intro w' hSw; (try dsimp only at hSw); go_simp; try with_reducible rfl)
                  (try simp only [Act.put, List.getElem_toArray, List.getElem_cons_zero, List.getElem_cons_succ, List.setIfInBounds_toArray, List.set_cons_zero, List.set_cons_succ])
                  refine wpDet_take ?vW20 (Bl.stays wr) (fun _ h => h) (i := 20) rfl (by kernel_rfl) (by kernel_rfl) (by kernel_rfl) (by kernel_rfl) (fun _ _ _ h => h) (Gives.value (by rfl) ?yW20) ?rW20
                  case yW20 => (intro w' hSw; (try dsimp only at hSw); go_simp; try with_reducible rfl)
                  (try simp only [Act.put, List.getElem_toArray, List.getElem_cons_zero, List.getElem_cons_succ, List.setIfInBounds_toArray, List.set_cons_zero, List.set_cons_succ])
                  refine wpDet_take (.bool true) (Bl.stays wr) (fun _ h => h) (i := 21) rfl (by kernel_rfl) (by kernel_rfl) (by kernel_rfl) (by kernel_rfl) (fun _ _ _ h => h) (Gives.call 25 #[.slice p1 (s.bhP qi ver).1.length c1, .slice p2 (s.bhP qi ver).1.length c2] (by rfl) (fun _ => by first | (go_simp; done) | (go_simp; rfl)) (fun W hW => (sameR_any (hr1.below hW) (hr2.below hW) (by omega)))) ?_
                  (try simp only [Act.put, List.getElem_toArray, List.getElem_cons_zero, List.getElem_cons_succ, List.setIfInBounds_toArray, List.set_cons_zero, List.set_cons_succ])
                  refine wpDet_take ?vW22 (Bl.stays wr) (fun _ h => h) (i := 22) rfl (by kernel_rfl) (by kernel_rfl) (by kernel_rfl) (by kernel_rfl) (fun _ _ _ h => h) (Gives.value (by rfl) ?yW22) ?rW22
                  case yW22 => (intro w' hSw; (try dsimp only at hSw); go_simp; try with_reducible rfl)
                  (try simp only [Act.put, List.getElem_toArray, List.getElem_cons_zero, List.getElem_cons_succ, List.setIfInBounds_toArray, List.set_cons_zero, List.set_cons_succ])
                  refine wpDet_take ?vW23 (Bl.stays wr) (fun _ h => h) (i := 23) rfl (by kernel_rfl) (by kernel_rfl) (by kernel_rfl) (by kernel_rfl) (fun _ _ _ h => h) (Gives.value (by rfl) ?yW23) ?rW23
                  case yW23 => (intro w' hSw; (try dsimp only at hSw); go_simp; try with_reducible rfl)
                  (try simp only [Act.put, List.getElem_toArray, List.getElem_cons_zero, List.getElem_cons_succ, List.setIfInBounds_toArray, List.set_cons_zero, List.set_cons_succ])
                  refine wpDet_take ?vW24 (Bl.stays wr) (fun _ h => h) (i := 24) rfl (by kernel_rfl) (by kernel_rfl) (by kernel_rfl) (by kernel_rfl) (fun _ _ _ h => h) (Gives.value (by rfl) ?yW24) ?rW24
                  case yW24 => (intro w' hSw; (try dsimp only at hSw); go_simp; try with_reducible rfl)
                  (try simp only [Act.put, List.getElem_toArray, List.getElem_cons_zero, List.getElem_cons_succ, List.setIfInBounds_toArray, List.set_cons_zero, List.set_cons_succ])
                  refine wpDet_take ?vW25 (Bl.stays wr) (fun _ h => h) (i := 25) rfl (by kernel_rfl) (by kernel_rfl) (by kernel_rfl) (by kernel_rfl) (fun _ _ _ h => h) (Gives.value (by rfl) ?yW25) ?rW25
                  case yW25 => (intro w' hSw; (try dsimp only at hSw); go_simp; try with_reducible rfl)
                  (try simp only [Act.put, List.getElem_toArray, List.getElem_cons_zero, List.getElem_cons_succ, List.setIfInBounds_toArray, List.set_cons_zero, List.set_cons_succ])
                  refine wpDet_take ?vW26 (Bl.stays wr) (fun _ h => h) (i := 26) rfl (by kernel_rfl) (by kernel_rfl) (by kernel_rfl) (by kernel_rfl) (fun _ _ _ h => h) (Gives.value (by rfl) ?yW26) ?rW26
                  case yW26 => (intro w' hSw; (try dsimp only at hSw); go_simp; try with_reducible rfl)
                  (try simp only [Act.put, List.getElem_toArray, List.getElem_cons_zero, List.getElem_cons_succ, List.setIfInBounds_toArray, List.set_cons_zero, List.set_cons_succ])
                  refine wpDet_take ?vW27 (Bl.stays wr) (fun _ h => h) (i := 27) rfl (by kernel_rfl) (by kernel_rfl) (by kernel_rfl) (by kernel_rfl) (fun _ _ _ h => h) (Gives.value (by rfl) ?yW27) ?rW27
                  case yW27 => (intro w' hSw; (try dsimp only at hSw); go_simp; try with_reducible rfl)
                  (try simp only [Act.put, List.getElem_toArray, List.getElem_cons_zero, List.getElem_cons_succ, List.setIfInBounds_toArray, List.set_cons_zero, List.set_cons_succ])
                  refine wpDet_take ?vW28 (Bl.stays wr) (fun _ h => h) (i := 28) rfl (by kernel_rfl) (by kernel_rfl) (by kernel_rfl) (by kernel_rfl) (fun _ _ _ h => h) (Gives.value (by rfl) ?yW28) ?rW28
                  case yW28 => (intro w' hSw; (try dsimp only at hSw); go_simp; try with_reducible rfl)
                  (try simp only [Act.put, List.getElem_toArray, List.getElem_cons_zero, List.getElem_cons_succ, List.setIfInBounds_toArray, List.set_cons_zero, List.set_cons_succ])
                  refine wpDet_take ?vW29 (Bl.stays wr) (fun _ h => h) (i := 29) rfl (by kernel_rfl) (by kernel_rfl) (by kernel_rfl) (by kernel_rfl) (fun _ _ _ h => h) (Gives.value (by rfl) ?yW29) ?rW29
                  case yW29 => (intro w' hSw; (try dsimp only at hSw); go_simp; try with_reducible rfl)
                  (try simp only [Act.put, List.getElem_toArray, List.getElem_cons_zero, List.getElem_cons_succ, List.setIfInBounds_toArray, List.set_cons_zero, List.set_cons_succ])
                  refine wpDet_take ?vW30 (Bl.stays wr) (fun _ h => h) (i := 30) rfl (by kernel_rfl) (by kernel_rfl) (by kernel_rfl) (by kernel_rfl) (fun _ _ _ h => h) (Gives.value (by rfl) ?yW30) ?rW30
                  case yW30 => (intro w' hSw; (try dsimp only at hSw); go_simp; try with_reducible rfl)
                  (try simp only [Act.put, List.getElem_toArray, List.getElem_cons_zero, List.getElem_cons_succ, List.setIfInBounds_toArray, List.set_cons_zero, List.set_cons_succ])
                  refine wpDet_take ?vW31 (Bl.stays wr) (fun _ h => h) (i := 31) rfl (by kernel_rfl) (by kernel_rfl) (by kernel_rfl) (by kernel_rfl) (fun _ _ _ h => h) (Gives.value (by rfl) ?yW31) ?rW31
                  case yW31 => (intro w' hSw; (try dsimp only at hSw); go_simp; try with_reducible rfl)
                  (try simp only [Act.put, List.getElem_toArray, List.getElem_cons_zero, List.getElem_cons_succ, List.setIfInBounds_toArray, List.set_cons_zero, List.set_cons_succ])
                  refine wpDet_take ?vW32 (Bl.stays wr) (fun _ h => h) (i := 32) rfl (by kernel_rfl) (by kernel_rfl) (by kernel_rfl) (by kernel_rfl) (fun _ _ _ h => h) (Gives.value (by rfl) ?yW32) ?rW32
                  case yW32 => (intro w' hSw; (try dsimp only at hSw); go_simp; try with_reducible rfl)
                  (try simp only [Act.put, List.getElem_toArray, List.getElem_cons_zero, List.getElem_cons_succ, List.setIfInBounds_toArray, List.set_cons_zero, List.set_cons_succ])
                  refine wpDet_take ?vW33 (Bl.stays wr) (fun _ h => h) (i := 33) rfl (by kernel_rfl) (by kernel_rfl) (by kernel_rfl) (by kernel_rfl) (fun _ _ _ h => h) (Gives.value (by rfl) ?yW33) ?rW33
                  case yW33 => (intro w' hSw; (try dsimp only at hSw); go_simp; try with_reducible rfl)
                  (try simp only [Act.put, List.getElem_toArray, List.getElem_cons_zero, List.getElem_cons_succ, List.setIfInBounds_toArray, List.set_cons_zero, List.set_cons_succ])
                  refine wpDet_take ?vW34 (Bl.stays wr) (fun _ h => h) (i := 34) rfl (by kernel_rfl) (by kernel_rfl) (by kernel_rfl) (by kernel_rfl) (fun _ _ _ h => h) (Gives.value (by rfl) ?yW34) ?rW34
                  case yW34 => (intro w' hSw; (try dsimp only at hSw); go_simp; try with_reducible rfl)
                  (try simp only [Act.put, List.getElem_toArray, List.getElem_cons_zero, List.getElem_cons_succ, List.setIfInBounds_toArray, List.set_cons_zero, List.set_cons_succ])
                  refine wpDet_take ?vW35 (Bl.stays wr) (fun _ h => h) (i := 35) rfl (by kernel_rfl) (by kernel_rfl) (by kernel_rfl) (by kernel_rfl) (fun _ _ _ h => h) (Gives.value (by rfl) ?yW35) ?rW35
                  case yW35 => (intro w' hSw; (try dsimp only at hSw); go_simp; try with_reducible rfl)
                  (try simp only [Act.put, List.getElem_toArray, List.getElem_cons_zero, List.getElem_cons_succ, List.setIfInBounds_toArray, List.set_cons_zero, List.set_cons_succ])
                  refine wpDet_take ?vW36 (Bl.stays wr) (fun _ h => h) (i := 36) rfl (by kernel_rfl) (by kernel_rfl) (by kernel_rfl) (by kernel_rfl) (fun _ _ _ h => h) (Gives.value (by rfl) ?yW36) ?rW36
                  case yW36 => (intro w' hSw; (try dsimp only at hSw); go_simp; try with_reducible rfl)
                  (try simp only [Act.put, List.getElem_toArray, List.getElem_cons_zero, List.getElem_cons_succ, List.setIfInBounds_toArray, List.set_cons_zero, List.set_cons_succ])
                  refine wpDet_take ?vW37 (Bl.stays wr) (fun _ h => h) (i := 37) rfl (by kernel_rfl) (by kernel_rfl) (by kernel_rfl) (by kernel_rfl) (fun _ _ _ h => h) (Gives.value (by rfl) ?yW37) ?rW37
                  case yW37 => (intro w' hSw; (try dsimp only at hSw); go_simp; try with_reducible rfl)
                  (try simp only [Act.put, List.getElem_toArray, List.getElem_cons_zero, List.getElem_cons_succ, List.setIfInBounds_toArray, List.set_cons_zero, List.set_cons_succ])
                  refine wpDet_take ?vW38 (Bl.stays wr) (fun _ h => h) (i := 38) rfl (by kernel_rfl) (by kernel_rfl) (by kernel_rfl) (by kernel_rfl) (fun _ _ _ h => h) (Gives.value (by rfl) ?yW38) ?rW38
                  case yW38 => (intro w' hSw; (try dsimp only at hSw); go_simp; try with_reducible rfl)
                  (try simp only [Act.put, List.getElem_toArray, List.getElem_cons_zero, List.getElem_cons_succ, List.setIfInBounds_toArray, List.set_cons_zero, List.set_cons_succ])
                  refine wpDet_take ?vW39 (Bl.stays wr) (fun _ h => h) (i := 39) rfl (by kernel_rfl) (by kernel_rfl) (by kernel_rfl) (by kernel_rfl) (fun _ _ _ h => h) (Gives.value (by rfl) ?yW39) ?rW39
                  case yW39 => (intro w' hSw; (try dsimp only at hSw); go_simp; try with_reducible rfl)
                  (try simp only [Act.put, List.getElem_toArray, List.getElem_cons_zero, List.getElem_cons_succ, List.setIfInBounds_toArray, List.set_cons_zero, List.set_cons_succ])
                  refine wpDet_take ?vW40 (Bl.stays wr) (fun _ h => h) (i := 40) rfl (by kernel_rfl) (by kernel_rfl) (by kernel_rfl) (by kernel_rfl) (fun _ _ _ h => h) (Gives.value (by rfl) ?yW40) ?rW40
                  case yW40 => (intro w' hSw; have kk := At.below hK (Bl.out hSw); have q0 := At.cell kk 0; have q1 := At.cell kk 1; have q2 := At.cell kk 2; have q3 := At.cell kk 3; have q4 := At.cell kk 4; have q5 := At.cell kk 5; have q6 := At.cell kk 6; have q7 := At.cell kk 7; simp only [List.getElem?_toArray, List.getElem?_cons_zero, List.getElem?_cons_succ] at q0 q1 q2 q3 q4 q5 q6 q7; (try dsimp only at hSw); go_simp; try with_reducible rfl)
                  (try simp only [Act.put, List.getElem_toArray, List.getElem_cons_zero, List.getElem_cons_succ, List.setIfInBounds_toArray, List.set_cons_zero, List.set_cons_succ])
                  refine wpDet_take tvc (Bl.stays wr) (fun _ h => h) (i := 41) rfl (by kernel_rfl) (by kernel_rfl) (by kernel_rfl) (by kernel_rfl) (fun _ _ _ h => h) (Gives.call 26 #[.pointer (some ⟨g, 0, none⟩), .agg #[.int .u8 (bt (q) 0), .int .u8 (bt (q) 1), .int .u8 (bt (q) 2), .int .u8 (bt (q) 3), .int .u8 (bt (q) 4), .int .u8 (bt (q) 5), .int .u8 (bt (q) 6), .int .u8 (bt (q) 7)]] (by rfl) (fun _ => by first | (go_simp; done) | (go_simp; rfl)) (fun W hW => (hc1 _ hW))) ?_
                  (try simp only [Act.put, List.getElem_toArray, List.getElem_cons_zero, List.getElem_cons_succ, List.setIfInBounds_toArray, List.set_cons_zero, List.set_cons_succ])
                  refine wpDet_take ?vW42 (Bl.stays wr) (fun _ h => h) (i := 42) rfl (by kernel_rfl) (by kernel_rfl) (by kernel_rfl) (by kernel_rfl) (fun _ _ _ h => h) (Gives.value (by rfl) ?yW42) ?rW42
                  case yW42 => (intro w' hSw; (try dsimp only at hSw); go_simp; try with_reducible rfl)
                  (try simp only [Act.put, List.getElem_toArray, List.getElem_cons_zero, List.getElem_cons_succ, List.setIfInBounds_toArray, List.set_cons_zero, List.set_cons_succ])
                  refine wpDet_take ?vW43 (Bl.stays wr) (fun _ h => h) (i := 43) rfl (by kernel_rfl) (by kernel_rfl) (by kernel_rfl) (by kernel_rfl) (fun _ _ _ h => h) (Gives.value (by rfl) ?yW43) ?rW43
                  case yW43 => (intro w' hSw; (try dsimp only at hSw); go_simp; try with_reducible rfl)
                  (try simp only [Act.put, List.getElem_toArray, List.getElem_cons_zero, List.getElem_cons_succ, List.setIfInBounds_toArray, List.set_cons_zero, List.set_cons_succ])
                  refine wpDet_take ?vW44 (Bl.stays wr) (fun _ h => h) (i := 44) rfl (by kernel_rfl) (by kernel_rfl) (by kernel_rfl) (by kernel_rfl) (fun _ _ _ h => h) (Gives.value (by rfl) ?yW44) ?rW44
                  case yW44 => (intro w' hSw; (try dsimp only at hSw); go_simp; try with_reducible rfl)
                  (try simp only [Act.put, List.getElem_toArray, List.getElem_cons_zero, List.getElem_cons_succ, List.setIfInBounds_toArray, List.set_cons_zero, List.set_cons_succ])
                  refine wpDet_take ?vW45 (Bl.stays wr) (fun _ h => h) (i := 45) rfl (by kernel_rfl) (by kernel_rfl) (by kernel_rfl) (by kernel_rfl) (fun _ _ _ h => h) (Gives.value (by rfl) ?yW45) ?rW45
                  case yW45 => (intro w' hSw; (try dsimp only at hSw); go_simp; try with_reducible rfl)
                  (try simp only [Act.put, List.getElem_toArray, List.getElem_cons_zero, List.getElem_cons_succ, List.setIfInBounds_toArray, List.set_cons_zero, List.set_cons_succ])
                  refine wpDet_take ?vW46 (Bl.stays wr) (fun _ h => h) (i := 46) rfl (by kernel_rfl) (by kernel_rfl) (by kernel_rfl) (by kernel_rfl) (fun _ _ _ h => h) (Gives.value (by rfl) ?yW46) ?rW46
                  case yW46 => (intro w' hSw; have x5 := (AX.below hX (Bl.out hSw)).com; (try dsimp only at hSw); go_simp; try with_reducible rfl)
                  (try simp only [Act.put, List.getElem_toArray, List.getElem_cons_zero, List.getElem_cons_succ, List.setIfInBounds_toArray, List.set_cons_zero, List.set_cons_succ])
                  refine wpDet_take ?vW48 (Bl.stays wr) (fun _ h => h) (i := 48) rfl (by kernel_rfl) (by kernel_rfl) (by kernel_rfl) (by kernel_rfl) (fun _ _ _ h => h) (Gives.value (by rfl) ?yW48) ?rW48
                  case yW48 => (intro w' hSw; have kk := At.below hK (Bl.out hSw); have q0 := At.cell kk 0; have q1 := At.cell kk 1; have q2 := At.cell kk 2; have q3 := At.cell kk 3; have q4 := At.cell kk 4; have q5 := At.cell kk 5; have q6 := At.cell kk 6; have q7 := At.cell kk 7; simp only [List.getElem?_toArray, List.getElem?_cons_zero, List.getElem?_cons_succ] at q0 q1 q2 q3 q4 q5 q6 q7; (try dsimp only at hSw); go_simp; try with_reducible rfl)
                  (try simp only [Act.put, List.getElem_toArray, List.getElem_cons_zero, List.getElem_cons_succ, List.setIfInBounds_toArray, List.set_cons_zero, List.set_cons_succ])
                  refine wpDet_ready (rs := [47]) (by kernel_rfl) (by simp) (AllDet.cons rfl (fun V hV K hK => ?_) AllDet.nil)
                  rw [if_pos (by rfl)]
                  have hbV := Bl.out hV
                  refine wp_enterX 28 #[.pointer (some ⟨gx, 0, none⟩), .int .i64 s.com] (by first | (go_simp; done) | (go_simp; rfl)) (fun x W => TabR W x (s.low.adds (s.tail.take (s.com - s.low.ix).toNat)) ∧ Below V.heap.size V W) (((hU1 _ hbV)).mono fun r w' ⟨v, h1, h2, h3⟩ => ⟨v, h1, h2, h3⟩) ?_
                  rintro tv1 V7 ⟨hqx, hbx⟩
                  have hz7 : (TB1 wr tv1 (s.low.adds (s.tail.take (s.com - s.low.ix).toNat))) V7 := ⟨Bl.stays wr V _ hV hbx, hqx⟩
                  refine hK.out (TB1 wr tv1 (s.low.adds (s.tail.take (s.com - s.low.ix).toNat))) _ _ (TB1.stays _ _ _) (fun _ _ h => h.1) hz7 ?_
                  clear hK K hV hbV hqx hbx hz7
                  (try simp only [Act.put, List.getElem_toArray, List.getElem_cons_zero, List.getElem_cons_succ, List.setIfInBounds_toArray, List.set_cons_zero, List.set_cons_succ])
                  refine wpDet_ready (rs := [49]) (by kernel_rfl) (by simp) (AllDet.cons rfl (fun V hV K hK => ?_) AllDet.nil)
                  rw [if_pos (by rfl)]
                  have hbV := Bl.out hV.1
                  refine wp_enterX 27 #[tv1, .agg #[.int .u8 (bt (q) 0), .int .u8 (bt (q) 1), .int .u8 (bt (q) 2), .int .u8 (bt (q) 3), .int .u8 (bt (q) 4), .int .u8 (bt (q) 5), .int .u8 (bt (q) 6), .int .u8 (bt (q) 7)]] (by first | (go_simp; done) | (go_simp; rfl)) (fun x W => x = tvc ∧ Below V.heap.size V W) ((hL1 _ _ hV.2).mono fun r w' ⟨h1, h2⟩ => ⟨_, h1, rfl, h2⟩) ?_
                  rintro x7 V7 ⟨rfl, hbx⟩
                  have hz7 : Bl wr V7 := Bl.stays wr V _ hV.1 hbx
                  refine hK.out (Bl wr) _ _ (Bl.stays wr) (fun _ _ h => h) hz7 ?_
                  clear hK K hV hbV hbx hz7
                  (try simp only [Act.put, List.getElem_toArray, List.getElem_cons_zero, List.getElem_cons_succ, List.setIfInBounds_toArray, List.set_cons_zero, List.set_cons_succ])
                  refine wpDet_take ?vW50 (Bl.stays wr) (fun _ h => h) (i := 50) rfl (by kernel_rfl) (by kernel_rfl) (by kernel_rfl) (by kernel_rfl) (fun _ _ _ h => h) (Gives.value (by rfl) ?yW50) ?rW50
                  case yW50 => (intro w' hSw; have hq := hec w'; have hg := hgc w'; (try dsimp only at hSw); go_simp; try with_reducible rfl)
                  (try simp only [Act.put, List.getElem_toArray, List.getElem_cons_zero, List.getElem_cons_succ, List.setIfInBounds_toArray, List.set_cons_zero, List.set_cons_succ])
                  refine wpDet_take ?vW51 (Bl.stays wr) (fun _ h => h) (i := 51) rfl (by kernel_rfl) (by kernel_rfl) (by kernel_rfl) (by kernel_rfl) (fun _ _ _ h => h) (Gives.value (by rfl) ?yW51) ?rW51
                  case yW51 => (intro w' hSw; (try dsimp only at hSw); go_simp; try with_reducible rfl)
                  (try simp only [Act.put, List.getElem_toArray, List.getElem_cons_zero, List.getElem_cons_succ, List.setIfInBounds_toArray, List.set_cons_zero, List.set_cons_succ])
                  refine wpDet_take ?vW52 (Bl.stays wr) (fun _ h => h) (i := 52) rfl (by kernel_rfl) (by kernel_rfl) (by kernel_rfl) (by kernel_rfl) (fun _ _ _ h => h) (Gives.value (by rfl) ?yW52) ?rW52
                  case yW52 => (intro w' hSw; (try dsimp only at hSw); go_simp; try with_reducible rfl)
                  (try simp only [Act.put, List.getElem_toArray, List.getElem_cons_zero, List.getElem_cons_succ, List.setIfInBounds_toArray, List.set_cons_zero, List.set_cons_succ])
                  refine wpDet_take ?vW53 (Bl.stays wr) (fun _ h => h) (i := 53) rfl (by kernel_rfl) (by kernel_rfl) (by kernel_rfl) (by kernel_rfl) (fun _ _ _ h => h) (Gives.value (by rfl) ?yW53) ?rW53
                  case yW53 => (intro w' hSw; (try dsimp only at hSw); go_simp; try with_reducible rfl)
                  (try simp only [Act.put, List.getElem_toArray, List.getElem_cons_zero, List.getElem_cons_succ, List.setIfInBounds_toArray, List.set_cons_zero, List.set_cons_succ])
                  refine wpDet_take ?vW54 (Bl.stays wr) (fun _ h => h) (i := 54) rfl (by kernel_rfl) (by kernel_rfl) (by kernel_rfl) (by kernel_rfl) (fun _ _ _ h => h) (Gives.value (by rfl) ?yW54) ?rW54
                  case yW54 => (intro w' hSw; have kk := At.below hK (Bl.out hSw); have q0 := At.cell kk 0; have q1 := At.cell kk 1; have q2 := At.cell kk 2; have q3 := At.cell kk 3; have q4 := At.cell kk 4; have q5 := At.cell kk 5; have q6 := At.cell kk 6; have q7 := At.cell kk 7; simp only [List.getElem?_toArray, List.getElem?_cons_zero, List.getElem?_cons_succ] at q0 q1 q2 q3 q4 q5 q6 q7; (try dsimp only at hSw); go_simp; try with_reducible rfl)
                  (try simp only [Act.put, List.getElem_toArray, List.getElem_cons_zero, List.getElem_cons_succ, List.setIfInBounds_toArray, List.set_cons_zero, List.set_cons_succ])
                  refine wpDet_take tvt (Bl.stays wr) (fun _ h => h) (i := 55) rfl (by kernel_rfl) (by kernel_rfl) (by kernel_rfl) (by kernel_rfl) (fun _ _ _ h => h) (Gives.call 29 #[.pointer (some ⟨g, 0, none⟩), .agg #[.int .u8 (bt (q) 0), .int .u8 (bt (q) 1), .int .u8 (bt (q) 2), .int .u8 (bt (q) 3), .int .u8 (bt (q) 4), .int .u8 (bt (q) 5), .int .u8 (bt (q) 6), .int .u8 (bt (q) 7)]] (by rfl) (fun _ => by first | (go_simp; done) | (go_simp; rfl)) (fun W hW => (ht1 _ hW))) ?_
                  (try simp only [Act.put, List.getElem_toArray, List.getElem_cons_zero, List.getElem_cons_succ, List.setIfInBounds_toArray, List.set_cons_zero, List.set_cons_succ])
                  refine wpDet_take ?vW56 (Bl.stays wr) (fun _ h => h) (i := 56) rfl (by kernel_rfl) (by kernel_rfl) (by kernel_rfl) (by kernel_rfl) (fun _ _ _ h => h) (Gives.value (by rfl) ?yW56) ?rW56
                  case yW56 => (intro w' hSw; (try dsimp only at hSw); go_simp; try with_reducible rfl)
                  (try simp only [Act.put, List.getElem_toArray, List.getElem_cons_zero, List.getElem_cons_succ, List.setIfInBounds_toArray, List.set_cons_zero, List.set_cons_succ])
                  refine wpDet_take ?vW58 (Bl.stays wr) (fun _ h => h) (i := 58) rfl (by kernel_rfl) (by kernel_rfl) (by kernel_rfl) (by kernel_rfl) (fun _ _ _ h => h) (Gives.value (by rfl) ?yW58) ?rW58
                  case yW58 => (intro w' hSw; have kk := At.below hK (Bl.out hSw); have q0 := At.cell kk 0; have q1 := At.cell kk 1; have q2 := At.cell kk 2; have q3 := At.cell kk 3; have q4 := At.cell kk 4; have q5 := At.cell kk 5; have q6 := At.cell kk 6; have q7 := At.cell kk 7; simp only [List.getElem?_toArray, List.getElem?_cons_zero, List.getElem?_cons_succ] at q0 q1 q2 q3 q4 q5 q6 q7; (try dsimp only at hSw); go_simp; try with_reducible rfl)
                  (try simp only [Act.put, List.getElem_toArray, List.getElem_cons_zero, List.getElem_cons_succ, List.setIfInBounds_toArray, List.set_cons_zero, List.set_cons_succ])
                  refine wpDet_ready (rs := [57]) (by kernel_rfl) (by simp) (AllDet.cons rfl (fun V hV K hK => ?_) AllDet.nil)
                  rw [if_pos (by rfl)]
                  have hbV := Bl.out hV
                  refine wp_enterX 28 #[.pointer (some ⟨gx, 0, none⟩), .int .i64 1099511627776] (by first | (go_simp; done) | (go_simp; rfl)) (fun x W => TabR W x (s.low.adds (s.tail.take s.tail.length)) ∧ Below V.heap.size V W) (((hU2 _ hbV)).mono fun r w' ⟨v, h1, h2, h3⟩ => ⟨v, h1, h2, h3⟩) ?_
                  rintro tv2 V7 ⟨hqx, hbx⟩
                  have hz7 : (TB1 wr tv2 (s.low.adds (s.tail.take s.tail.length))) V7 := ⟨Bl.stays wr V _ hV hbx, hqx⟩
                  refine hK.out (TB1 wr tv2 (s.low.adds (s.tail.take s.tail.length))) _ _ (TB1.stays _ _ _) (fun _ _ h => h.1) hz7 ?_
                  clear hK K hV hbV hqx hbx hz7
                  (try simp only [Act.put, List.getElem_toArray, List.getElem_cons_zero, List.getElem_cons_succ, List.setIfInBounds_toArray, List.set_cons_zero, List.set_cons_succ])
                  refine wpDet_ready (rs := [59]) (by kernel_rfl) (by simp) (AllDet.cons rfl (fun V hV K hK => ?_) AllDet.nil)
                  rw [if_pos (by rfl)]
                  have hbV := Bl.out hV.1
                  refine wp_enterX 27 #[tv2, .agg #[.int .u8 (bt (q) 0), .int .u8 (bt (q) 1), .int .u8 (bt (q) 2), .int .u8 (bt (q) 3), .int .u8 (bt (q) 4), .int .u8 (bt (q) 5), .int .u8 (bt (q) 6), .int .u8 (bt (q) 7)]] (by first | (go_simp; done) | (go_simp; rfl)) (fun x W => x = tvt ∧ Below V.heap.size V W) ((hL2 _ _ hV.2).mono fun r w' ⟨h1, h2⟩ => ⟨_, h1, rfl, h2⟩) ?_
                  rintro x7 V7 ⟨rfl, hbx⟩
                  have hz7 : Bl wr V7 := Bl.stays wr V _ hV.1 hbx
                  refine hK.out (Bl wr) _ _ (Bl.stays wr) (fun _ _ h => h) hz7 ?_
                  clear hK K hV hbV hbx hz7
                  (try simp only [Act.put, List.getElem_toArray, List.getElem_cons_zero, List.getElem_cons_succ, List.setIfInBounds_toArray, List.set_cons_zero, List.set_cons_succ])
                  refine wpDet_take ?vW60 (Bl.stays wr) (fun _ h => h) (i := 60) rfl (by kernel_rfl) (by kernel_rfl) (by kernel_rfl) (by kernel_rfl) (fun _ _ _ h => h) (Gives.value (by rfl) ?yW60) ?rW60
                  case yW60 => (intro w' hSw; have hq := het w'; have hg := hgt w'; (try dsimp only at hSw); go_simp; try with_reducible rfl)
                  (try simp only [Act.put, List.getElem_toArray, List.getElem_cons_zero, List.getElem_cons_succ, List.setIfInBounds_toArray, List.set_cons_zero, List.set_cons_succ])
                  refine wpDet_take ?vW61 (Bl.stays wr) (fun _ h => h) (i := 61) rfl (by kernel_rfl) (by kernel_rfl) (by kernel_rfl) (by kernel_rfl) (fun _ _ _ h => h) (Gives.value (by rfl) ?yW61) ?rW61
                  case yW61 => (intro w' hSw; (try dsimp only at hSw); go_simp; try with_reducible rfl)
                  (try simp only [Act.put, List.getElem_toArray, List.getElem_cons_zero, List.getElem_cons_succ, List.setIfInBounds_toArray, List.set_cons_zero, List.set_cons_succ])
                  refine wpDet_take ?vW62 (Bl.stays wr) (fun _ h => h) (i := 62) rfl (by kernel_rfl) (by kernel_rfl) (by kernel_rfl) (by kernel_rfl) (fun _ _ _ h => h) (Gives.value (by rfl) ?yW62) ?rW62
                  case yW62 => (intro w' hSw; (try dsimp only at hSw); go_simp; try with_reducible rfl)
                  (try simp only [Act.put, List.getElem_toArray, List.getElem_cons_zero, List.getElem_cons_succ, List.setIfInBounds_toArray, List.set_cons_zero, List.set_cons_succ])
                  refine wpDet_take (.bool true) (Bl.stays wr) (fun _ h => h) (i := 63) rfl (by kernel_rfl) (by kernel_rfl) (by kernel_rfl) (by kernel_rfl) (fun _ _ _ h => h) (Gives.call 12 #[] (by rfl) (fun _ => by first | (go_simp; done) | (go_simp; rfl)) (fun W hW => (awake_any _ (hTV.up hW)))) ?_
                  (try simp only [Act.put, List.getElem_toArray, List.getElem_cons_zero, List.getElem_cons_succ, List.setIfInBounds_toArray, List.set_cons_zero, List.set_cons_succ])
                  refine wpDet_take ?vW64 (Bl.stays wr) (fun _ h => h) (i := 64) rfl (by kernel_rfl) (by kernel_rfl) (by kernel_rfl) (by kernel_rfl) (fun _ _ _ h => h) (Gives.value (by rfl) ?yW64) ?rW64
                  case yW64 => (intro w' hSw; (try dsimp only at hSw); go_simp; try with_reducible rfl)
                  (try simp only [Act.put, List.getElem_toArray, List.getElem_cons_zero, List.getElem_cons_succ, List.setIfInBounds_toArray, List.set_cons_zero, List.set_cons_succ])
                  refine wpDet_take ?vW65 (Bl.stays wr) (fun _ h => h) (i := 65) rfl (by kernel_rfl) (by kernel_rfl) (by kernel_rfl) (by kernel_rfl) (fun _ _ _ h => h) (Gives.value (by rfl) ?yW65) ?rW65
                  case yW65 => (intro w' hSw; (try dsimp only at hSw); go_simp; try with_reducible rfl)
                  (try simp only [Act.put, List.getElem_toArray, List.getElem_cons_zero, List.getElem_cons_succ, List.setIfInBounds_toArray, List.set_cons_zero, List.set_cons_succ])
                  refine wpDet_done (by kernel_rfl) (fun W9 hV => ?_) _
                  have hB9 := HB.trans ((Bl.out hV).mono HB.size)
                  go_wp2_with fail
                  go_ret
                  exact ⟨rfl, hB9⟩
              | false =>
                as_aux_lemma =>
                  obtain rfl := htf rfl
                  clear htt htf
                  have hCm := fun W (h : Bl wr W) => commitX (hS.below h)
                  have hTV := hT.up HB
                  have hg2 := hkn
                  have hi := hS.inv
                  have hc1 := fun W (h : Bl wr W) => cleanX (hS.below h) q hq
                  have ht1 := fun W (h : Bl wr W) => topX (hS.below h) q hq
                  rw [show s.low.adds s.tail = (s.low.adds (s.tail.take s.tail.length)) from by rw [List.take_length]] at ht1
                  have hU1 := fun W (h : Below wr.heap.size wr W) => axUp (hX.below h) hi hg2 (j := (s.com - s.low.ix).toNat) (i := s.com) (by have := hi.lo; have := hi.hi; omega) (by have := hi.lo; omega) (Or.inr (by have := hi.lo; omega))
                  have hU2 := fun W (h : Below wr.heap.size wr W) => axUp (hX.below h) hi hg2 (j := s.tail.length) (i := 1099511627776) (Nat.le_refl _) (by have := hi.ix1; omega) (Or.inl rfl)
                  have hL1 := fun (v : Value) (W : World) (h : TabR W v (s.low.adds (s.tail.take (s.com - s.low.ix).toNat))) => cellX h (hg2.front _) q hq
                  have hL2 := fun (v : Value) (W : World) (h : TabR W v (s.low.adds (s.tail.take s.tail.length))) => cellX h (hg2.front _) q hq
                  have hbl : (s.bhP qi ver).1.length ≤ 1000 := by
                    unfold Sh.bhP
                    split
                    · show (s.beh qi ver).length ≤ 1000
                      unfold Sh.beh
                      rw [List.length_take, List.length_drop]
                      have := hi.few
                      omega
                    · exact Nat.zero_le _
                  have hec : ∀ W, (binOp .eql 53 (.agg #[.int .u8 (bt ((lookC (s.low.adds (s.tail.take (s.com - s.low.ix).toNat)).cs q).getD .z0).k 0), .int .u8 (bt ((lookC (s.low.adds (s.tail.take (s.com - s.low.ix).toNat)).cs q).getD .z0).k 1), .int .u8 (bt ((lookC (s.low.adds (s.tail.take (s.com - s.low.ix).toNat)).cs q).getD .z0).k 2), .int .u8 (bt ((lookC (s.low.adds (s.tail.take (s.com - s.low.ix).toNat)).cs q).getD .z0).k 3), .int .u8 (bt ((lookC (s.low.adds (s.tail.take (s.com - s.low.ix).toNat)).cs q).getD .z0).k 4), .int .u8 (bt ((lookC (s.low.adds (s.tail.take (s.com - s.low.ix).toNat)).cs q).getD .z0).k 5), .int .u8 (bt ((lookC (s.low.adds (s.tail.take (s.com - s.low.ix).toNat)).cs q).getD .z0).k 6), .int .u8 (bt ((lookC (s.low.adds (s.tail.take (s.com - s.low.ix).toNat)).cs q).getD .z0).k 7), .int .i64 ((lookC (s.low.adds (s.tail.take (s.com - s.low.ix).toNat)).cs q).getD .z0).v, .string ((lookC (s.low.adds (s.tail.take (s.com - s.low.ix).toNat)).cs q).getD .z0).s]) (.agg #[.int .u8 (bt ((lookC (s.low.adds (s.tail.take (s.com - s.low.ix).toNat)).cs q).getD .z0).k 0), .int .u8 (bt ((lookC (s.low.adds (s.tail.take (s.com - s.low.ix).toNat)).cs q).getD .z0).k 1), .int .u8 (bt ((lookC (s.low.adds (s.tail.take (s.com - s.low.ix).toNat)).cs q).getD .z0).k 2), .int .u8 (bt ((lookC (s.low.adds (s.tail.take (s.com - s.low.ix).toNat)).cs q).getD .z0).k 3), .int .u8 (bt ((lookC (s.low.adds (s.tail.take (s.com - s.low.ix).toNat)).cs q).getD .z0).k 4), .int .u8 (bt ((lookC (s.low.adds (s.tail.take (s.com - s.low.ix).toNat)).cs q).getD .z0).k 5), .int .u8 (bt ((lookC (s.low.adds (s.tail.take (s.com - s.low.ix).toNat)).cs q).getD .z0).k 6), .int .u8 (bt ((lookC (s.low.adds (s.tail.take (s.com - s.low.ix).toNat)).cs q).getD .z0).k 7), .int .i64 ((lookC (s.low.adds (s.tail.take (s.com - s.low.ix).toNat)).cs q).getD .z0).v, .string ((lookC (s.low.adds (s.tail.take (s.com - s.low.ix).toNat)).cs q).getD .z0).s])).run Tryd.prog W = .ok (.bool true) W := fun W => by
                    have h := eql_cel ((lookC (s.low.adds (s.tail.take (s.com - s.low.ix).toNat)).cs q).getD .z0) ((lookC (s.low.adds (s.tail.take (s.com - s.low.ix).toNat)).cs q).getD .z0) W
                    rw [eqCe_self] at h
                    exact h
                  have hgc : ∀ W, (eqGuard .eql 53 (.tmp 160) (.tmp 168) (.agg #[.int .u8 (bt ((lookC (s.low.adds (s.tail.take (s.com - s.low.ix).toNat)).cs q).getD .z0).k 0), .int .u8 (bt ((lookC (s.low.adds (s.tail.take (s.com - s.low.ix).toNat)).cs q).getD .z0).k 1), .int .u8 (bt ((lookC (s.low.adds (s.tail.take (s.com - s.low.ix).toNat)).cs q).getD .z0).k 2), .int .u8 (bt ((lookC (s.low.adds (s.tail.take (s.com - s.low.ix).toNat)).cs q).getD .z0).k 3), .int .u8 (bt ((lookC (s.low.adds (s.tail.take (s.com - s.low.ix).toNat)).cs q).getD .z0).k 4), .int .u8 (bt ((lookC (s.low.adds (s.tail.take (s.com - s.low.ix).toNat)).cs q).getD .z0).k 5), .int .u8 (bt ((lookC (s.low.adds (s.tail.take (s.com - s.low.ix).toNat)).cs q).getD .z0).k 6), .int .u8 (bt ((lookC (s.low.adds (s.tail.take (s.com - s.low.ix).toNat)).cs q).getD .z0).k 7), .int .i64 ((lookC (s.low.adds (s.tail.take (s.com - s.low.ix).toNat)).cs q).getD .z0).v, .string ((lookC (s.low.adds (s.tail.take (s.com - s.low.ix).toNat)).cs q).getD .z0).s]) (.agg #[.int .u8 (bt ((lookC (s.low.adds (s.tail.take (s.com - s.low.ix).toNat)).cs q).getD .z0).k 0), .int .u8 (bt ((lookC (s.low.adds (s.tail.take (s.com - s.low.ix).toNat)).cs q).getD .z0).k 1), .int .u8 (bt ((lookC (s.low.adds (s.tail.take (s.com - s.low.ix).toNat)).cs q).getD .z0).k 2), .int .u8 (bt ((lookC (s.low.adds (s.tail.take (s.com - s.low.ix).toNat)).cs q).getD .z0).k 3), .int .u8 (bt ((lookC (s.low.adds (s.tail.take (s.com - s.low.ix).toNat)).cs q).getD .z0).k 4), .int .u8 (bt ((lookC (s.low.adds (s.tail.take (s.com - s.low.ix).toNat)).cs q).getD .z0).k 5), .int .u8 (bt ((lookC (s.low.adds (s.tail.take (s.com - s.low.ix).toNat)).cs q).getD .z0).k 6), .int .u8 (bt ((lookC (s.low.adds (s.tail.take (s.com - s.low.ix).toNat)).cs q).getD .z0).k 7), .int .i64 ((lookC (s.low.adds (s.tail.take (s.com - s.low.ix).toNat)).cs q).getD .z0).v, .string ((lookC (s.low.adds (s.tail.take (s.com - s.low.ix).toNat)).cs q).getD .z0).s])).run Tryd.prog W = .ok () W := fun W => by go_simp
                  have het : ∀ W, (binOp .eql 53 (.agg #[.int .u8 (bt ((lookC (s.low.adds (s.tail.take s.tail.length)).cs q).getD .z0).k 0), .int .u8 (bt ((lookC (s.low.adds (s.tail.take s.tail.length)).cs q).getD .z0).k 1), .int .u8 (bt ((lookC (s.low.adds (s.tail.take s.tail.length)).cs q).getD .z0).k 2), .int .u8 (bt ((lookC (s.low.adds (s.tail.take s.tail.length)).cs q).getD .z0).k 3), .int .u8 (bt ((lookC (s.low.adds (s.tail.take s.tail.length)).cs q).getD .z0).k 4), .int .u8 (bt ((lookC (s.low.adds (s.tail.take s.tail.length)).cs q).getD .z0).k 5), .int .u8 (bt ((lookC (s.low.adds (s.tail.take s.tail.length)).cs q).getD .z0).k 6), .int .u8 (bt ((lookC (s.low.adds (s.tail.take s.tail.length)).cs q).getD .z0).k 7), .int .i64 ((lookC (s.low.adds (s.tail.take s.tail.length)).cs q).getD .z0).v, .string ((lookC (s.low.adds (s.tail.take s.tail.length)).cs q).getD .z0).s]) (.agg #[.int .u8 (bt ((lookC (s.low.adds (s.tail.take s.tail.length)).cs q).getD .z0).k 0), .int .u8 (bt ((lookC (s.low.adds (s.tail.take s.tail.length)).cs q).getD .z0).k 1), .int .u8 (bt ((lookC (s.low.adds (s.tail.take s.tail.length)).cs q).getD .z0).k 2), .int .u8 (bt ((lookC (s.low.adds (s.tail.take s.tail.length)).cs q).getD .z0).k 3), .int .u8 (bt ((lookC (s.low.adds (s.tail.take s.tail.length)).cs q).getD .z0).k 4), .int .u8 (bt ((lookC (s.low.adds (s.tail.take s.tail.length)).cs q).getD .z0).k 5), .int .u8 (bt ((lookC (s.low.adds (s.tail.take s.tail.length)).cs q).getD .z0).k 6), .int .u8 (bt ((lookC (s.low.adds (s.tail.take s.tail.length)).cs q).getD .z0).k 7), .int .i64 ((lookC (s.low.adds (s.tail.take s.tail.length)).cs q).getD .z0).v, .string ((lookC (s.low.adds (s.tail.take s.tail.length)).cs q).getD .z0).s])).run Tryd.prog W = .ok (.bool true) W := fun W => by
                    have h := eql_cel ((lookC (s.low.adds (s.tail.take s.tail.length)).cs q).getD .z0) ((lookC (s.low.adds (s.tail.take s.tail.length)).cs q).getD .z0) W
                    rw [eqCe_self] at h
                    exact h
                  have hgt : ∀ W, (eqGuard .eql 53 (.tmp 174) (.tmp 178) (.agg #[.int .u8 (bt ((lookC (s.low.adds (s.tail.take s.tail.length)).cs q).getD .z0).k 0), .int .u8 (bt ((lookC (s.low.adds (s.tail.take s.tail.length)).cs q).getD .z0).k 1), .int .u8 (bt ((lookC (s.low.adds (s.tail.take s.tail.length)).cs q).getD .z0).k 2), .int .u8 (bt ((lookC (s.low.adds (s.tail.take s.tail.length)).cs q).getD .z0).k 3), .int .u8 (bt ((lookC (s.low.adds (s.tail.take s.tail.length)).cs q).getD .z0).k 4), .int .u8 (bt ((lookC (s.low.adds (s.tail.take s.tail.length)).cs q).getD .z0).k 5), .int .u8 (bt ((lookC (s.low.adds (s.tail.take s.tail.length)).cs q).getD .z0).k 6), .int .u8 (bt ((lookC (s.low.adds (s.tail.take s.tail.length)).cs q).getD .z0).k 7), .int .i64 ((lookC (s.low.adds (s.tail.take s.tail.length)).cs q).getD .z0).v, .string ((lookC (s.low.adds (s.tail.take s.tail.length)).cs q).getD .z0).s]) (.agg #[.int .u8 (bt ((lookC (s.low.adds (s.tail.take s.tail.length)).cs q).getD .z0).k 0), .int .u8 (bt ((lookC (s.low.adds (s.tail.take s.tail.length)).cs q).getD .z0).k 1), .int .u8 (bt ((lookC (s.low.adds (s.tail.take s.tail.length)).cs q).getD .z0).k 2), .int .u8 (bt ((lookC (s.low.adds (s.tail.take s.tail.length)).cs q).getD .z0).k 3), .int .u8 (bt ((lookC (s.low.adds (s.tail.take s.tail.length)).cs q).getD .z0).k 4), .int .u8 (bt ((lookC (s.low.adds (s.tail.take s.tail.length)).cs q).getD .z0).k 5), .int .u8 (bt ((lookC (s.low.adds (s.tail.take s.tail.length)).cs q).getD .z0).k 6), .int .u8 (bt ((lookC (s.low.adds (s.tail.take s.tail.length)).cs q).getD .z0).k 7), .int .i64 ((lookC (s.low.adds (s.tail.take s.tail.length)).cs q).getD .z0).v, .string ((lookC (s.low.adds (s.tail.take s.tail.length)).cs q).getD .z0).s])).run Tryd.prog W = .ok () W := fun W => by go_simp
                  generalize Value.agg #[.int .u8 (bt ((lookC (s.low.adds (s.tail.take (s.com - s.low.ix).toNat)).cs q).getD .z0).k 0), .int .u8 (bt ((lookC (s.low.adds (s.tail.take (s.com - s.low.ix).toNat)).cs q).getD .z0).k 1), .int .u8 (bt ((lookC (s.low.adds (s.tail.take (s.com - s.low.ix).toNat)).cs q).getD .z0).k 2), .int .u8 (bt ((lookC (s.low.adds (s.tail.take (s.com - s.low.ix).toNat)).cs q).getD .z0).k 3), .int .u8 (bt ((lookC (s.low.adds (s.tail.take (s.com - s.low.ix).toNat)).cs q).getD .z0).k 4), .int .u8 (bt ((lookC (s.low.adds (s.tail.take (s.com - s.low.ix).toNat)).cs q).getD .z0).k 5), .int .u8 (bt ((lookC (s.low.adds (s.tail.take (s.com - s.low.ix).toNat)).cs q).getD .z0).k 6), .int .u8 (bt ((lookC (s.low.adds (s.tail.take (s.com - s.low.ix).toNat)).cs q).getD .z0).k 7), .int .i64 ((lookC (s.low.adds (s.tail.take (s.com - s.low.ix).toNat)).cs q).getD .z0).v, .string ((lookC (s.low.adds (s.tail.take (s.com - s.low.ix).toNat)).cs q).getD .z0).s] = tvc at hc1 hL1 hec hgc
                  generalize Value.agg #[.int .u8 (bt ((lookC (s.low.adds (s.tail.take s.tail.length)).cs q).getD .z0).k 0), .int .u8 (bt ((lookC (s.low.adds (s.tail.take s.tail.length)).cs q).getD .z0).k 1), .int .u8 (bt ((lookC (s.low.adds (s.tail.take s.tail.length)).cs q).getD .z0).k 2), .int .u8 (bt ((lookC (s.low.adds (s.tail.take s.tail.length)).cs q).getD .z0).k 3), .int .u8 (bt ((lookC (s.low.adds (s.tail.take s.tail.length)).cs q).getD .z0).k 4), .int .u8 (bt ((lookC (s.low.adds (s.tail.take s.tail.length)).cs q).getD .z0).k 5), .int .u8 (bt ((lookC (s.low.adds (s.tail.take s.tail.length)).cs q).getD .z0).k 6), .int .u8 (bt ((lookC (s.low.adds (s.tail.take s.tail.length)).cs q).getD .z0).k 7), .int .i64 ((lookC (s.low.adds (s.tail.take s.tail.length)).cs q).getD .z0).v, .string ((lookC (s.low.adds (s.tail.take s.tail.length)).cs q).getD .z0).s] = tvt at ht1 hL2 het hgt
                  clear hg2 hi hkn
                  have hS0 : Bl wr wr.drew := (Below.refl _ _).drew
                  go_wp2_with fail
                  dsimp only [List.append_eq, List.cons_append, List.nil_append]
                  refine wp_region_det [0, 1, 2, 3, 4, 5, 6, 7, 8, 9, 10, 11, 12, 13, 14, 15, 16, 17, 18, 19, 20, 21, 22, 23, 24, 25, 26, 27, 28, 29, 30, 31, 32, 33, 34, 35, 36, 37, 38, 39, 40, 41, 42, 43, 44, 45, 46, 48, 50, 51, 52, 53, 54, 55, 56, 58, 60, 61, 62, 63, 64, 65] (Bl wr) (Bl wr) (by kernel_rfl) hS0 ?_
                  refine wpDet_take ?vX0 (Bl.stays wr) (fun _ h => h) (i := 0) rfl (by kernel_rfl) (by kernel_rfl) (by kernel_rfl) (by kernel_rfl) (fun _ _ _ h => h) (Gives.value (by rfl) ?yX0) ?rX0
                  case yX0 => (intro w' hSw; (try dsimp only at hSw); go_simp; try with_reducible rfl)
                  (try simp only [Act.put, List.getElem_toArray, List.getElem_cons_zero, List.getElem_cons_succ, List.setIfInBounds_toArray, List.set_cons_zero, List.set_cons_succ])
                  refine wpDet_take ?vX1 (Bl.stays wr) (fun _ h => h) (i := 1) rfl (by kernel_rfl) (by kernel_rfl) (by kernel_rfl) (by kernel_rfl) (fun _ _ _ h => h) (Gives.value (by rfl) ?yX1) ?rX1
                  case yX1 => (intro w' hSw; (try dsimp only at hSw); go_simp; try with_reducible rfl)
                  (try simp only [Act.put, List.getElem_toArray, List.getElem_cons_zero, List.getElem_cons_succ, List.setIfInBounds_toArray, List.set_cons_zero, List.set_cons_succ])
                  refine wpDet_take ?vX2 (Bl.stays wr) (fun _ h => h) (i := 2) rfl (by kernel_rfl) (by kernel_rfl) (by kernel_rfl) (by kernel_rfl) (fun _ _ _ h => h) (Gives.value (by rfl) ?yX2) ?rX2
                  case yX2 => (intro w' hSw; (try dsimp only at hSw); go_simp; try with_reducible rfl)
                  (try simp only [Act.put, List.getElem_toArray, List.getElem_cons_zero, List.getElem_cons_succ, List.setIfInBounds_toArray, List.set_cons_zero, List.set_cons_succ])
                  refine wpDet_take ?vX3 (Bl.stays wr) (fun _ h => h) (i := 3) rfl (by kernel_rfl) (by kernel_rfl) (by kernel_rfl) (by kernel_rfl) (fun _ _ _ h => h) (Gives.value (by rfl) ?yX3) ?rX3
                  case yX3 => (intro w' hSw; (try dsimp only at hSw); go_simp; try with_reducible rfl)
                  (try simp only [Act.put, List.getElem_toArray, List.getElem_cons_zero, List.getElem_cons_succ, List.setIfInBounds_toArray, List.set_cons_zero, List.set_cons_succ])
                  refine wpDet_take ?vX4 (Bl.stays wr) (fun _ h => h) (i := 4) rfl (by kernel_rfl) (by kernel_rfl) (by kernel_rfl) (by kernel_rfl) (fun _ _ _ h => h) (Gives.value (by rfl) ?yX4) ?rX4
                  case yX4 => (intro w' hSw; (try dsimp only at hSw); go_simp; try with_reducible rfl)
                  (try simp only [Act.put, List.getElem_toArray, List.getElem_cons_zero, List.getElem_cons_succ, List.setIfInBounds_toArray, List.set_cons_zero, List.set_cons_succ])
                  refine wpDet_take ?vX5 (Bl.stays wr) (fun _ h => h) (i := 5) rfl (by kernel_rfl) (by kernel_rfl) (by kernel_rfl) (by kernel_rfl) (fun _ _ _ h => h) (Gives.value (by rfl) ?yX5) ?rX5
                  case yX5 => (intro w' hSw; (try dsimp only at hSw); go_simp; try with_reducible rfl)
                  (try simp only [Act.put, List.getElem_toArray, List.getElem_cons_zero, List.getElem_cons_succ, List.setIfInBounds_toArray, List.set_cons_zero, List.set_cons_succ])
                  refine wpDet_take ?vX6 (Bl.stays wr) (fun _ h => h) (i := 6) rfl (by kernel_rfl) (by kernel_rfl) (by kernel_rfl) (by kernel_rfl) (fun _ _ _ h => h) (Gives.value (by rfl) ?yX6) ?rX6
                  case yX6 => (intro w' hSw; (try dsimp only at hSw); go_simp; try with_reducible rfl)
                  (try simp only [Act.put, List.getElem_toArray, List.getElem_cons_zero, List.getElem_cons_succ, List.setIfInBounds_toArray, List.set_cons_zero, List.set_cons_succ])
                  refine wpDet_take ?vX7 (Bl.stays wr) (fun _ h => h) (i := 7) rfl (by kernel_rfl) (by kernel_rfl) (by kernel_rfl) (by kernel_rfl) (fun _ _ _ h => h) (Gives.value (by rfl) ?yX7) ?rX7
                  case yX7 => (intro w' hSw; (try dsimp only at hSw); go_simp; try with_reducible rfl)
                  (try simp only [Act.put, List.getElem_toArray, List.getElem_cons_zero, List.getElem_cons_succ, List.setIfInBounds_toArray, List.set_cons_zero, List.set_cons_succ])
                  refine wpDet_take ?vX8 (Bl.stays wr) (fun _ h => h) (i := 8) rfl (by kernel_rfl) (by kernel_rfl) (by kernel_rfl) (by kernel_rfl) (fun _ _ _ h => h) (Gives.value (by rfl) ?yX8) ?rX8
                  case yX8 => (intro w' hSw; (try dsimp only at hSw); go_simp; try with_reducible rfl)
                  (try simp only [Act.put, List.getElem_toArray, List.getElem_cons_zero, List.getElem_cons_succ, List.setIfInBounds_toArray, List.set_cons_zero, List.set_cons_succ])
                  refine wpDet_take ?vX9 (Bl.stays wr) (fun _ h => h) (i := 9) rfl (by kernel_rfl) (by kernel_rfl) (by kernel_rfl) (by kernel_rfl) (fun _ _ _ h => h) (Gives.value (by rfl) ?yX9) ?rX9
                  case yX9 => (intro w' hSw; (try dsimp only at hSw); go_simp; try with_reducible rfl)
                  (try simp only [Act.put, List.getElem_toArray, List.getElem_cons_zero, List.getElem_cons_succ, List.setIfInBounds_toArray, List.set_cons_zero, List.set_cons_succ])
                  refine wpDet_take ?vX10 (Bl.stays wr) (fun _ h => h) (i := 10) rfl (by kernel_rfl) (by kernel_rfl) (by kernel_rfl) (by kernel_rfl) (fun _ _ _ h => h) (Gives.value (by rfl) ?yX10) ?rX10
                  case yX10 => (intro w' hSw; (try dsimp only at hSw); go_simp; try with_reducible rfl)
                  (try simp only [Act.put, List.getElem_toArray, List.getElem_cons_zero, List.getElem_cons_succ, List.setIfInBounds_toArray, List.set_cons_zero, List.set_cons_succ])
                  refine wpDet_take ?vX11 (Bl.stays wr) (fun _ h => h) (i := 11) rfl (by kernel_rfl) (by kernel_rfl) (by kernel_rfl) (by kernel_rfl) (fun _ _ _ h => h) (Gives.value (by rfl) ?yX11) ?rX11
                  case yX11 => (intro w' hSw; (try dsimp only at hSw); go_simp; try with_reducible rfl)
                  (try simp only [Act.put, List.getElem_toArray, List.getElem_cons_zero, List.getElem_cons_succ, List.setIfInBounds_toArray, List.set_cons_zero, List.set_cons_succ])
                  refine wpDet_take ?vX12 (Bl.stays wr) (fun _ h => h) (i := 12) rfl (by kernel_rfl) (by kernel_rfl) (by kernel_rfl) (by kernel_rfl) (fun _ _ _ h => h) (Gives.value (by rfl) ?yX12) ?rX12
                  case yX12 => (intro w' hSw; (try dsimp only at hSw); go_simp; try with_reducible rfl)
                  (try simp only [Act.put, List.getElem_toArray, List.getElem_cons_zero, List.getElem_cons_succ, List.setIfInBounds_toArray, List.set_cons_zero, List.set_cons_succ])
                  refine wpDet_take ?vX13 (Bl.stays wr) (fun _ h => h) (i := 13) rfl (by kernel_rfl) (by kernel_rfl) (by kernel_rfl) (by kernel_rfl) (fun _ _ _ h => h) (Gives.value (by rfl) ?yX13) ?rX13
                  case yX13 => (intro w' hSw; (try dsimp only at hSw); go_simp; try with_reducible rfl)
                  (try simp only [Act.put, List.getElem_toArray, List.getElem_cons_zero, List.getElem_cons_succ, List.setIfInBounds_toArray, List.set_cons_zero, List.set_cons_succ])
                  refine wpDet_take ?vX14 (Bl.stays wr) (fun _ h => h) (i := 14) rfl (by kernel_rfl) (by kernel_rfl) (by kernel_rfl) (by kernel_rfl) (fun _ _ _ h => h) (Gives.value (by rfl) ?yX14) ?rX14
                  case yX14 => (intro w' hSw; (try dsimp only at hSw); go_simp; try with_reducible rfl)
                  (try simp only [Act.put, List.getElem_toArray, List.getElem_cons_zero, List.getElem_cons_succ, List.setIfInBounds_toArray, List.set_cons_zero, List.set_cons_succ])
                  refine wpDet_take ?vX15 (Bl.stays wr) (fun _ h => h) (i := 15) rfl (by kernel_rfl) (by kernel_rfl) (by kernel_rfl) (by kernel_rfl) (fun _ _ _ h => h) (Gives.value (by rfl) ?yX15) ?rX15
                  case yX15 => (intro w' hSw; (try dsimp only at hSw); go_simp; try with_reducible rfl)
                  (try simp only [Act.put, List.getElem_toArray, List.getElem_cons_zero, List.getElem_cons_succ, List.setIfInBounds_toArray, List.set_cons_zero, List.set_cons_succ])
                  refine wpDet_take ?vX16 (Bl.stays wr) (fun _ h => h) (i := 16) rfl (by kernel_rfl) (by kernel_rfl) (by kernel_rfl) (by kernel_rfl) (fun _ _ _ h => h) (Gives.value (by rfl) ?yX16) ?rX16
                  case yX16 => (intro w' hSw; (try dsimp only at hSw); go_simp; try with_reducible rfl)
                  (try simp only [Act.put, List.getElem_toArray, List.getElem_cons_zero, List.getElem_cons_succ, List.setIfInBounds_toArray, List.set_cons_zero, List.set_cons_succ])
                  refine wpDet_take ?vX17 (Bl.stays wr) (fun _ h => h) (i := 17) rfl (by kernel_rfl) (by kernel_rfl) (by kernel_rfl) (by kernel_rfl) (fun _ _ _ h => h) (Gives.value (by rfl) ?yX17) ?rX17
                  case yX17 => (intro w' hSw; (try dsimp only at hSw); go_simp; try with_reducible rfl)
                  (try simp only [Act.put, List.getElem_toArray, List.getElem_cons_zero, List.getElem_cons_succ, List.setIfInBounds_toArray, List.set_cons_zero, List.set_cons_succ])
                  refine wpDet_take ?vX18 (Bl.stays wr) (fun _ h => h) (i := 18) rfl (by kernel_rfl) (by kernel_rfl) (by kernel_rfl) (by kernel_rfl) (fun _ _ _ h => h) (Gives.value (by rfl) ?yX18) ?rX18
                  case yX18 => (intro w' hSw; (try dsimp only at hSw); go_simp; try with_reducible rfl)
                  (try simp only [Act.put, List.getElem_toArray, List.getElem_cons_zero, List.getElem_cons_succ, List.setIfInBounds_toArray, List.set_cons_zero, List.set_cons_succ])
                  refine wpDet_take ?vX19 (Bl.stays wr) (fun _ h => h) (i := 19) rfl (by kernel_rfl) (by kernel_rfl) (by kernel_rfl) (by kernel_rfl) (fun _ _ _ h => h) (Gives.value (by rfl) ?yX19) ?rX19
                  case yX19 => (intro w' hSw; (try dsimp only at hSw); go_simp; try with_reducible rfl)
                  (try simp only [Act.put, List.getElem_toArray, List.getElem_cons_zero, List.getElem_cons_succ, List.setIfInBounds_toArray, List.set_cons_zero, List.set_cons_succ])
                  refine wpDet_take ?vX20 (Bl.stays wr) (fun _ h => h) (i := 20) rfl (by kernel_rfl) (by kernel_rfl) (by kernel_rfl) (by kernel_rfl) (fun _ _ _ h => h) (Gives.value (by rfl) ?yX20) ?rX20
                  case yX20 => (intro w' hSw; (try dsimp only at hSw); go_simp; try with_reducible rfl)
                  (try simp only [Act.put, List.getElem_toArray, List.getElem_cons_zero, List.getElem_cons_succ, List.setIfInBounds_toArray, List.set_cons_zero, List.set_cons_succ])
                  refine wpDet_take (.bool true) (Bl.stays wr) (fun _ h => h) (i := 21) rfl (by kernel_rfl) (by kernel_rfl) (by kernel_rfl) (by kernel_rfl) (fun _ _ _ h => h) (Gives.call 25 #[.slice p1 (s.bhP qi ver).1.length c1, .slice p2 (s.bhP qi ver).1.length c2] (by rfl) (fun _ => by first | (go_simp; done) | (go_simp; rfl)) (fun W hW => (sameR_any (hr1.below hW) (hr2.below hW) (by omega)))) ?_
                  (try simp only [Act.put, List.getElem_toArray, List.getElem_cons_zero, List.getElem_cons_succ, List.setIfInBounds_toArray, List.set_cons_zero, List.set_cons_succ])
                  refine wpDet_take ?vX22 (Bl.stays wr) (fun _ h => h) (i := 22) rfl (by kernel_rfl) (by kernel_rfl) (by kernel_rfl) (by kernel_rfl) (fun _ _ _ h => h) (Gives.value (by rfl) ?yX22) ?rX22
                  case yX22 => (intro w' hSw; (try dsimp only at hSw); go_simp; try with_reducible rfl)
                  (try simp only [Act.put, List.getElem_toArray, List.getElem_cons_zero, List.getElem_cons_succ, List.setIfInBounds_toArray, List.set_cons_zero, List.set_cons_succ])
                  refine wpDet_take ?vX23 (Bl.stays wr) (fun _ h => h) (i := 23) rfl (by kernel_rfl) (by kernel_rfl) (by kernel_rfl) (by kernel_rfl) (fun _ _ _ h => h) (Gives.value (by rfl) ?yX23) ?rX23
                  case yX23 => (intro w' hSw; (try dsimp only at hSw); go_simp; try with_reducible rfl)
                  (try simp only [Act.put, List.getElem_toArray, List.getElem_cons_zero, List.getElem_cons_succ, List.setIfInBounds_toArray, List.set_cons_zero, List.set_cons_succ])
                  refine wpDet_take ?vX24 (Bl.stays wr) (fun _ h => h) (i := 24) rfl (by kernel_rfl) (by kernel_rfl) (by kernel_rfl) (by kernel_rfl) (fun _ _ _ h => h) (Gives.value (by rfl) ?yX24) ?rX24
                  case yX24 => (intro w' hSw; (try dsimp only at hSw); go_simp; try with_reducible rfl)
                  (try simp only [Act.put, List.getElem_toArray, List.getElem_cons_zero, List.getElem_cons_succ, List.setIfInBounds_toArray, List.set_cons_zero, List.set_cons_succ])
                  refine wpDet_take ?vX25 (Bl.stays wr) (fun _ h => h) (i := 25) rfl (by kernel_rfl) (by kernel_rfl) (by kernel_rfl) (by kernel_rfl) (fun _ _ _ h => h) (Gives.value (by rfl) ?yX25) ?rX25
                  case yX25 => (intro w' hSw; (try dsimp only at hSw); go_simp; try with_reducible rfl)
                  (try simp only [Act.put, List.getElem_toArray, List.getElem_cons_zero, List.getElem_cons_succ, List.setIfInBounds_toArray, List.set_cons_zero, List.set_cons_succ])
                  refine wpDet_take ?vX26 (Bl.stays wr) (fun _ h => h) (i := 26) rfl (by kernel_rfl) (by kernel_rfl) (by kernel_rfl) (by kernel_rfl) (fun _ _ _ h => h) (Gives.value (by rfl) ?yX26) ?rX26
                  case yX26 => (intro w' hSw; (try dsimp only at hSw); go_simp; try with_reducible rfl)
                  (try simp only [Act.put, List.getElem_toArray, List.getElem_cons_zero, List.getElem_cons_succ, List.setIfInBounds_toArray, List.set_cons_zero, List.set_cons_succ])
                  refine wpDet_take ?vX27 (Bl.stays wr) (fun _ h => h) (i := 27) rfl (by kernel_rfl) (by kernel_rfl) (by kernel_rfl) (by kernel_rfl) (fun _ _ _ h => h) (Gives.value (by rfl) ?yX27) ?rX27
                  case yX27 => (intro w' hSw; (try dsimp only at hSw); go_simp; try with_reducible rfl)
                  (try simp only [Act.put, List.getElem_toArray, List.getElem_cons_zero, List.getElem_cons_succ, List.setIfInBounds_toArray, List.set_cons_zero, List.set_cons_succ])
                  refine wpDet_take ?vX28 (Bl.stays wr) (fun _ h => h) (i := 28) rfl (by kernel_rfl) (by kernel_rfl) (by kernel_rfl) (by kernel_rfl) (fun _ _ _ h => h) (Gives.value (by rfl) ?yX28) ?rX28
                  case yX28 => (intro w' hSw; (try dsimp only at hSw); go_simp; try with_reducible rfl)
                  (try simp only [Act.put, List.getElem_toArray, List.getElem_cons_zero, List.getElem_cons_succ, List.setIfInBounds_toArray, List.set_cons_zero, List.set_cons_succ])
                  refine wpDet_take ?vX29 (Bl.stays wr) (fun _ h => h) (i := 29) rfl (by kernel_rfl) (by kernel_rfl) (by kernel_rfl) (by kernel_rfl) (fun _ _ _ h => h) (Gives.value (by rfl) ?yX29) ?rX29
                  case yX29 => (intro w' hSw; (try dsimp only at hSw); go_simp; try with_reducible rfl)
                  (try simp only [Act.put, List.getElem_toArray, List.getElem_cons_zero, List.getElem_cons_succ, List.setIfInBounds_toArray, List.set_cons_zero, List.set_cons_succ])
                  refine wpDet_take ?vX30 (Bl.stays wr) (fun _ h => h) (i := 30) rfl (by kernel_rfl) (by kernel_rfl) (by kernel_rfl) (by kernel_rfl) (fun _ _ _ h => h) (Gives.value (by rfl) ?yX30) ?rX30
                  case yX30 => (intro w' hSw; (try dsimp only at hSw); go_simp; try with_reducible rfl)
                  (try simp only [Act.put, List.getElem_toArray, List.getElem_cons_zero, List.getElem_cons_succ, List.setIfInBounds_toArray, List.set_cons_zero, List.set_cons_succ])
                  refine wpDet_take ?vX31 (Bl.stays wr) (fun _ h => h) (i := 31) rfl (by kernel_rfl) (by kernel_rfl) (by kernel_rfl) (by kernel_rfl) (fun _ _ _ h => h) (Gives.value (by rfl) ?yX31) ?rX31
                  case yX31 => (intro w' hSw; (try dsimp only at hSw); go_simp; try with_reducible rfl)
                  (try simp only [Act.put, List.getElem_toArray, List.getElem_cons_zero, List.getElem_cons_succ, List.setIfInBounds_toArray, List.set_cons_zero, List.set_cons_succ])
                  refine wpDet_take ?vX32 (Bl.stays wr) (fun _ h => h) (i := 32) rfl (by kernel_rfl) (by kernel_rfl) (by kernel_rfl) (by kernel_rfl) (fun _ _ _ h => h) (Gives.value (by rfl) ?yX32) ?rX32
                  case yX32 => (intro w' hSw; (try dsimp only at hSw); go_simp; try with_reducible rfl)
                  (try simp only [Act.put, List.getElem_toArray, List.getElem_cons_zero, List.getElem_cons_succ, List.setIfInBounds_toArray, List.set_cons_zero, List.set_cons_succ])
                  refine wpDet_take ?vX33 (Bl.stays wr) (fun _ h => h) (i := 33) rfl (by kernel_rfl) (by kernel_rfl) (by kernel_rfl) (by kernel_rfl) (fun _ _ _ h => h) (Gives.value (by rfl) ?yX33) ?rX33
                  case yX33 => (intro w' hSw; (try dsimp only at hSw); go_simp; try with_reducible rfl)
                  (try simp only [Act.put, List.getElem_toArray, List.getElem_cons_zero, List.getElem_cons_succ, List.setIfInBounds_toArray, List.set_cons_zero, List.set_cons_succ])
                  refine wpDet_take ?vX34 (Bl.stays wr) (fun _ h => h) (i := 34) rfl (by kernel_rfl) (by kernel_rfl) (by kernel_rfl) (by kernel_rfl) (fun _ _ _ h => h) (Gives.value (by rfl) ?yX34) ?rX34
                  case yX34 => (intro w' hSw; (try dsimp only at hSw); go_simp; try with_reducible rfl)
                  (try simp only [Act.put, List.getElem_toArray, List.getElem_cons_zero, List.getElem_cons_succ, List.setIfInBounds_toArray, List.set_cons_zero, List.set_cons_succ])
                  refine wpDet_take ?vX35 (Bl.stays wr) (fun _ h => h) (i := 35) rfl (by kernel_rfl) (by kernel_rfl) (by kernel_rfl) (by kernel_rfl) (fun _ _ _ h => h) (Gives.value (by rfl) ?yX35) ?rX35
                  case yX35 => (intro w' hSw; (try dsimp only at hSw); go_simp; try with_reducible rfl)
                  (try simp only [Act.put, List.getElem_toArray, List.getElem_cons_zero, List.getElem_cons_succ, List.setIfInBounds_toArray, List.set_cons_zero, List.set_cons_succ])
                  refine wpDet_take ?vX36 (Bl.stays wr) (fun _ h => h) (i := 36) rfl (by kernel_rfl) (by kernel_rfl) (by kernel_rfl) (by kernel_rfl) (fun _ _ _ h => h) (Gives.value (by rfl) ?yX36) ?rX36
                  case yX36 => (intro w' hSw; (try dsimp only at hSw); go_simp; try with_reducible rfl)
                  (try simp only [Act.put, List.getElem_toArray, List.getElem_cons_zero, List.getElem_cons_succ, List.setIfInBounds_toArray, List.set_cons_zero, List.set_cons_succ])
                  refine wpDet_take ?vX37 (Bl.stays wr) (fun _ h => h) (i := 37) rfl (by kernel_rfl) (by kernel_rfl) (by kernel_rfl) (by kernel_rfl) (fun _ _ _ h => h) (Gives.value (by rfl) ?yX37) ?rX37
                  case yX37 => (intro w' hSw; (try dsimp only at hSw); go_simp; try with_reducible rfl)
                  (try simp only [Act.put, List.getElem_toArray, List.getElem_cons_zero, List.getElem_cons_succ, List.setIfInBounds_toArray, List.set_cons_zero, List.set_cons_succ])
                  refine wpDet_take ?vX38 (Bl.stays wr) (fun _ h => h) (i := 38) rfl (by kernel_rfl) (by kernel_rfl) (by kernel_rfl) (by kernel_rfl) (fun _ _ _ h => h) (Gives.value (by rfl) ?yX38) ?rX38
                  case yX38 => (intro w' hSw; (try dsimp only at hSw); go_simp; try with_reducible rfl)
                  (try simp only [Act.put, List.getElem_toArray, List.getElem_cons_zero, List.getElem_cons_succ, List.setIfInBounds_toArray, List.set_cons_zero, List.set_cons_succ])
                  refine wpDet_take ?vX39 (Bl.stays wr) (fun _ h => h) (i := 39) rfl (by kernel_rfl) (by kernel_rfl) (by kernel_rfl) (by kernel_rfl) (fun _ _ _ h => h) (Gives.value (by rfl) ?yX39) ?rX39
                  case yX39 => (intro w' hSw; (try dsimp only at hSw); go_simp; try with_reducible rfl)
                  (try simp only [Act.put, List.getElem_toArray, List.getElem_cons_zero, List.getElem_cons_succ, List.setIfInBounds_toArray, List.set_cons_zero, List.set_cons_succ])
                  refine wpDet_take ?vX40 (Bl.stays wr) (fun _ h => h) (i := 40) rfl (by kernel_rfl) (by kernel_rfl) (by kernel_rfl) (by kernel_rfl) (fun _ _ _ h => h) (Gives.value (by rfl) ?yX40) ?rX40
                  case yX40 => (intro w' hSw; have kk := At.below hK (Bl.out hSw); have q0 := At.cell kk 0; have q1 := At.cell kk 1; have q2 := At.cell kk 2; have q3 := At.cell kk 3; have q4 := At.cell kk 4; have q5 := At.cell kk 5; have q6 := At.cell kk 6; have q7 := At.cell kk 7; simp only [List.getElem?_toArray, List.getElem?_cons_zero, List.getElem?_cons_succ] at q0 q1 q2 q3 q4 q5 q6 q7; (try dsimp only at hSw); go_simp; try with_reducible rfl)
                  (try simp only [Act.put, List.getElem_toArray, List.getElem_cons_zero, List.getElem_cons_succ, List.setIfInBounds_toArray, List.set_cons_zero, List.set_cons_succ])
                  refine wpDet_take tvc (Bl.stays wr) (fun _ h => h) (i := 41) rfl (by kernel_rfl) (by kernel_rfl) (by kernel_rfl) (by kernel_rfl) (fun _ _ _ h => h) (Gives.call 26 #[.pointer (some ⟨g, 0, none⟩), .agg #[.int .u8 (bt (q) 0), .int .u8 (bt (q) 1), .int .u8 (bt (q) 2), .int .u8 (bt (q) 3), .int .u8 (bt (q) 4), .int .u8 (bt (q) 5), .int .u8 (bt (q) 6), .int .u8 (bt (q) 7)]] (by rfl) (fun _ => by first | (go_simp; done) | (go_simp; rfl)) (fun W hW => (hc1 _ hW))) ?_
                  (try simp only [Act.put, List.getElem_toArray, List.getElem_cons_zero, List.getElem_cons_succ, List.setIfInBounds_toArray, List.set_cons_zero, List.set_cons_succ])
                  refine wpDet_take ?vX42 (Bl.stays wr) (fun _ h => h) (i := 42) rfl (by kernel_rfl) (by kernel_rfl) (by kernel_rfl) (by kernel_rfl) (fun _ _ _ h => h) (Gives.value (by rfl) ?yX42) ?rX42
                  case yX42 => (intro w' hSw; (try dsimp only at hSw); go_simp; try with_reducible rfl)
                  (try simp only [Act.put, List.getElem_toArray, List.getElem_cons_zero, List.getElem_cons_succ, List.setIfInBounds_toArray, List.set_cons_zero, List.set_cons_succ])
                  refine wpDet_take ?vX43 (Bl.stays wr) (fun _ h => h) (i := 43) rfl (by kernel_rfl) (by kernel_rfl) (by kernel_rfl) (by kernel_rfl) (fun _ _ _ h => h) (Gives.value (by rfl) ?yX43) ?rX43
                  case yX43 => (intro w' hSw; (try dsimp only at hSw); go_simp; try with_reducible rfl)
                  (try simp only [Act.put, List.getElem_toArray, List.getElem_cons_zero, List.getElem_cons_succ, List.setIfInBounds_toArray, List.set_cons_zero, List.set_cons_succ])
                  refine wpDet_take ?vX44 (Bl.stays wr) (fun _ h => h) (i := 44) rfl (by kernel_rfl) (by kernel_rfl) (by kernel_rfl) (by kernel_rfl) (fun _ _ _ h => h) (Gives.value (by rfl) ?yX44) ?rX44
                  case yX44 => (intro w' hSw; (try dsimp only at hSw); go_simp; try with_reducible rfl)
                  (try simp only [Act.put, List.getElem_toArray, List.getElem_cons_zero, List.getElem_cons_succ, List.setIfInBounds_toArray, List.set_cons_zero, List.set_cons_succ])
                  refine wpDet_take ?vX45 (Bl.stays wr) (fun _ h => h) (i := 45) rfl (by kernel_rfl) (by kernel_rfl) (by kernel_rfl) (by kernel_rfl) (fun _ _ _ h => h) (Gives.value (by rfl) ?yX45) ?rX45
                  case yX45 => (intro w' hSw; (try dsimp only at hSw); go_simp; try with_reducible rfl)
                  (try simp only [Act.put, List.getElem_toArray, List.getElem_cons_zero, List.getElem_cons_succ, List.setIfInBounds_toArray, List.set_cons_zero, List.set_cons_succ])
                  refine wpDet_take ?vX46 (Bl.stays wr) (fun _ h => h) (i := 46) rfl (by kernel_rfl) (by kernel_rfl) (by kernel_rfl) (by kernel_rfl) (fun _ _ _ h => h) (Gives.value (by rfl) ?yX46) ?rX46
                  case yX46 => (intro w' hSw; have x5 := (AX.below hX (Bl.out hSw)).com; (try dsimp only at hSw); go_simp; try with_reducible rfl)
                  (try simp only [Act.put, List.getElem_toArray, List.getElem_cons_zero, List.getElem_cons_succ, List.setIfInBounds_toArray, List.set_cons_zero, List.set_cons_succ])
                  refine wpDet_take ?vX48 (Bl.stays wr) (fun _ h => h) (i := 48) rfl (by kernel_rfl) (by kernel_rfl) (by kernel_rfl) (by kernel_rfl) (fun _ _ _ h => h) (Gives.value (by rfl) ?yX48) ?rX48
                  case yX48 => (intro w' hSw; have kk := At.below hK (Bl.out hSw); have q0 := At.cell kk 0; have q1 := At.cell kk 1; have q2 := At.cell kk 2; have q3 := At.cell kk 3; have q4 := At.cell kk 4; have q5 := At.cell kk 5; have q6 := At.cell kk 6; have q7 := At.cell kk 7; simp only [List.getElem?_toArray, List.getElem?_cons_zero, List.getElem?_cons_succ] at q0 q1 q2 q3 q4 q5 q6 q7; (try dsimp only at hSw); go_simp; try with_reducible rfl)
                  (try simp only [Act.put, List.getElem_toArray, List.getElem_cons_zero, List.getElem_cons_succ, List.setIfInBounds_toArray, List.set_cons_zero, List.set_cons_succ])
                  refine wpDet_ready (rs := [47]) (by kernel_rfl) (by simp) (AllDet.cons rfl (fun V hV K hK => ?_) AllDet.nil)
                  rw [if_pos (by rfl)]
                  have hbV := Bl.out hV
                  refine wp_enterX 28 #[.pointer (some ⟨gx, 0, none⟩), .int .i64 s.com] (by first | (go_simp; done) | (go_simp; rfl)) (fun x W => TabR W x (s.low.adds (s.tail.take (s.com - s.low.ix).toNat)) ∧ Below V.heap.size V W) (((hU1 _ hbV)).mono fun r w' ⟨v, h1, h2, h3⟩ => ⟨v, h1, h2, h3⟩) ?_
                  rintro tv1 V7 ⟨hqx, hbx⟩
                  have hz7 : (TB1 wr tv1 (s.low.adds (s.tail.take (s.com - s.low.ix).toNat))) V7 := ⟨Bl.stays wr V _ hV hbx, hqx⟩
                  refine hK.out (TB1 wr tv1 (s.low.adds (s.tail.take (s.com - s.low.ix).toNat))) _ _ (TB1.stays _ _ _) (fun _ _ h => h.1) hz7 ?_
                  clear hK K hV hbV hqx hbx hz7
                  (try simp only [Act.put, List.getElem_toArray, List.getElem_cons_zero, List.getElem_cons_succ, List.setIfInBounds_toArray, List.set_cons_zero, List.set_cons_succ])
                  refine wpDet_ready (rs := [49]) (by kernel_rfl) (by simp) (AllDet.cons rfl (fun V hV K hK => ?_) AllDet.nil)
                  rw [if_pos (by rfl)]
                  have hbV := Bl.out hV.1
                  refine wp_enterX 27 #[tv1, .agg #[.int .u8 (bt (q) 0), .int .u8 (bt (q) 1), .int .u8 (bt (q) 2), .int .u8 (bt (q) 3), .int .u8 (bt (q) 4), .int .u8 (bt (q) 5), .int .u8 (bt (q) 6), .int .u8 (bt (q) 7)]] (by first | (go_simp; done) | (go_simp; rfl)) (fun x W => x = tvc ∧ Below V.heap.size V W) ((hL1 _ _ hV.2).mono fun r w' ⟨h1, h2⟩ => ⟨_, h1, rfl, h2⟩) ?_
                  rintro x7 V7 ⟨rfl, hbx⟩
                  have hz7 : Bl wr V7 := Bl.stays wr V _ hV.1 hbx
                  refine hK.out (Bl wr) _ _ (Bl.stays wr) (fun _ _ h => h) hz7 ?_
                  clear hK K hV hbV hbx hz7
                  (try simp only [Act.put, List.getElem_toArray, List.getElem_cons_zero, List.getElem_cons_succ, List.setIfInBounds_toArray, List.set_cons_zero, List.set_cons_succ])
                  refine wpDet_take ?vX50 (Bl.stays wr) (fun _ h => h) (i := 50) rfl (by kernel_rfl) (by kernel_rfl) (by kernel_rfl) (by kernel_rfl) (fun _ _ _ h => h) (Gives.value (by rfl) ?yX50) ?rX50
                  case yX50 => (intro w' hSw; have hq := hec w'; have hg := hgc w'; (try dsimp only at hSw); go_simp; try with_reducible rfl)
                  (try simp only [Act.put, List.getElem_toArray, List.getElem_cons_zero, List.getElem_cons_succ, List.setIfInBounds_toArray, List.set_cons_zero, List.set_cons_succ])
                  refine wpDet_take ?vX51 (Bl.stays wr) (fun _ h => h) (i := 51) rfl (by kernel_rfl) (by kernel_rfl) (by kernel_rfl) (by kernel_rfl) (fun _ _ _ h => h) (Gives.value (by rfl) ?yX51) ?rX51
                  case yX51 => (intro w' hSw; (try dsimp only at hSw); go_simp; try with_reducible rfl)
                  (try simp only [Act.put, List.getElem_toArray, List.getElem_cons_zero, List.getElem_cons_succ, List.setIfInBounds_toArray, List.set_cons_zero, List.set_cons_succ])
                  refine wpDet_take ?vX52 (Bl.stays wr) (fun _ h => h) (i := 52) rfl (by kernel_rfl) (by kernel_rfl) (by kernel_rfl) (by kernel_rfl) (fun _ _ _ h => h) (Gives.value (by rfl) ?yX52) ?rX52
                  case yX52 => (intro w' hSw; (try dsimp only at hSw); go_simp; try with_reducible rfl)
                  (try simp only [Act.put, List.getElem_toArray, List.getElem_cons_zero, List.getElem_cons_succ, List.setIfInBounds_toArray, List.set_cons_zero, List.set_cons_succ])
                  refine wpDet_take ?vX53 (Bl.stays wr) (fun _ h => h) (i := 53) rfl (by kernel_rfl) (by kernel_rfl) (by kernel_rfl) (by kernel_rfl) (fun _ _ _ h => h) (Gives.value (by rfl) ?yX53) ?rX53
                  case yX53 => (intro w' hSw; (try dsimp only at hSw); go_simp; try with_reducible rfl)
                  (try simp only [Act.put, List.getElem_toArray, List.getElem_cons_zero, List.getElem_cons_succ, List.setIfInBounds_toArray, List.set_cons_zero, List.set_cons_succ])
                  refine wpDet_take ?vX54 (Bl.stays wr) (fun _ h => h) (i := 54) rfl (by kernel_rfl) (by kernel_rfl) (by kernel_rfl) (by kernel_rfl) (fun _ _ _ h => h) (Gives.value (by rfl) ?yX54) ?rX54
                  case yX54 => (intro w' hSw; have kk := At.below hK (Bl.out hSw); have q0 := At.cell kk 0; have q1 := At.cell kk 1; have q2 := At.cell kk 2; have q3 := At.cell kk 3; have q4 := At.cell kk 4; have q5 := At.cell kk 5; have q6 := At.cell kk 6; have q7 := At.cell kk 7; simp only [List.getElem?_toArray, List.getElem?_cons_zero, List.getElem?_cons_succ] at q0 q1 q2 q3 q4 q5 q6 q7; (try dsimp only at hSw); go_simp; try with_reducible rfl)
                  (try simp only [Act.put, List.getElem_toArray, List.getElem_cons_zero, List.getElem_cons_succ, List.setIfInBounds_toArray, List.set_cons_zero, List.set_cons_succ])
                  refine wpDet_take tvt (Bl.stays wr) (fun _ h => h) (i := 55) rfl (by kernel_rfl) (by kernel_rfl) (by kernel_rfl) (by kernel_rfl) (fun _ _ _ h => h) (Gives.call 29 #[.pointer (some ⟨g, 0, none⟩), .agg #[.int .u8 (bt (q) 0), .int .u8 (bt (q) 1), .int .u8 (bt (q) 2), .int .u8 (bt (q) 3), .int .u8 (bt (q) 4), .int .u8 (bt (q) 5), .int .u8 (bt (q) 6), .int .u8 (bt (q) 7)]] (by rfl) (fun _ => by first | (go_simp; done) | (go_simp; rfl)) (fun W hW => (ht1 _ hW))) ?_
                  (try simp only [Act.put, List.getElem_toArray, List.getElem_cons_zero, List.getElem_cons_succ, List.setIfInBounds_toArray, List.set_cons_zero, List.set_cons_succ])
                  refine wpDet_take ?vX56 (Bl.stays wr) (fun _ h => h) (i := 56) rfl (by kernel_rfl) (by kernel_rfl) (by kernel_rfl) (by kernel_rfl) (fun _ _ _ h => h) (Gives.value (by rfl) ?yX56) ?rX56
                  case yX56 => (intro w' hSw; (try dsimp only at hSw); go_simp; try with_reducible rfl)
                  (try simp only [Act.put, List.getElem_toArray, List.getElem_cons_zero, List.getElem_cons_succ, List.setIfInBounds_toArray, List.set_cons_zero, List.set_cons_succ])
                  refine wpDet_take ?vX58 (Bl.stays wr) (fun _ h => h) (i := 58) rfl (by kernel_rfl) (by kernel_rfl) (by kernel_rfl) (by kernel_rfl) (fun _ _ _ h => h) (Gives.value (by rfl) ?yX58) ?rX58
                  case yX58 => (intro w' hSw; have kk := At.below hK (Bl.out hSw); have q0 := At.cell kk 0; have q1 := At.cell kk 1; have q2 := At.cell kk 2; have q3 := At.cell kk 3; have q4 := At.cell kk 4; have q5 := At.cell kk 5; have q6 := At.cell kk 6; have q7 := At.cell kk 7; simp only [List.getElem?_toArray, List.getElem?_cons_zero, List.getElem?_cons_succ] at q0 q1 q2 q3 q4 q5 q6 q7; (try dsimp only at hSw); go_simp; try with_reducible rfl)
                  (try simp only [Act.put, List.getElem_toArray, List.getElem_cons_zero, List.getElem_cons_succ, List.setIfInBounds_toArray, List.set_cons_zero, List.set_cons_succ])
                  refine wpDet_ready (rs := [57]) (by kernel_rfl) (by simp) (AllDet.cons rfl (fun V hV K hK => ?_) AllDet.nil)
                  rw [if_pos (by rfl)]
                  have hbV := Bl.out hV
                  refine wp_enterX 28 #[.pointer (some ⟨gx, 0, none⟩), .int .i64 1099511627776] (by first | (go_simp; done) | (go_simp; rfl)) (fun x W => TabR W x (s.low.adds (s.tail.take s.tail.length)) ∧ Below V.heap.size V W) (((hU2 _ hbV)).mono fun r w' ⟨v, h1, h2, h3⟩ => ⟨v, h1, h2, h3⟩) ?_
                  rintro tv2 V7 ⟨hqx, hbx⟩
                  have hz7 : (TB1 wr tv2 (s.low.adds (s.tail.take s.tail.length))) V7 := ⟨Bl.stays wr V _ hV hbx, hqx⟩
                  refine hK.out (TB1 wr tv2 (s.low.adds (s.tail.take s.tail.length))) _ _ (TB1.stays _ _ _) (fun _ _ h => h.1) hz7 ?_
                  clear hK K hV hbV hqx hbx hz7
                  (try simp only [Act.put, List.getElem_toArray, List.getElem_cons_zero, List.getElem_cons_succ, List.setIfInBounds_toArray, List.set_cons_zero, List.set_cons_succ])
                  refine wpDet_ready (rs := [59]) (by kernel_rfl) (by simp) (AllDet.cons rfl (fun V hV K hK => ?_) AllDet.nil)
                  rw [if_pos (by rfl)]
                  have hbV := Bl.out hV.1
                  refine wp_enterX 27 #[tv2, .agg #[.int .u8 (bt (q) 0), .int .u8 (bt (q) 1), .int .u8 (bt (q) 2), .int .u8 (bt (q) 3), .int .u8 (bt (q) 4), .int .u8 (bt (q) 5), .int .u8 (bt (q) 6), .int .u8 (bt (q) 7)]] (by first | (go_simp; done) | (go_simp; rfl)) (fun x W => x = tvt ∧ Below V.heap.size V W) ((hL2 _ _ hV.2).mono fun r w' ⟨h1, h2⟩ => ⟨_, h1, rfl, h2⟩) ?_
                  rintro x7 V7 ⟨rfl, hbx⟩
                  have hz7 : Bl wr V7 := Bl.stays wr V _ hV.1 hbx
                  refine hK.out (Bl wr) _ _ (Bl.stays wr) (fun _ _ h => h) hz7 ?_
                  clear hK K hV hbV hbx hz7
                  (try simp only [Act.put, List.getElem_toArray, List.getElem_cons_zero, List.getElem_cons_succ, List.setIfInBounds_toArray, List.set_cons_zero, List.set_cons_succ])
                  refine wpDet_take ?vX60 (Bl.stays wr) (fun _ h => h) (i := 60) rfl (by kernel_rfl) (by kernel_rfl) (by kernel_rfl) (by kernel_rfl) (fun _ _ _ h => h) (Gives.value (by rfl) ?yX60) ?rX60
                  case yX60 => (intro w' hSw; have hq := het w'; have hg := hgt w'; (try dsimp only at hSw); go_simp; try with_reducible rfl)
                  (try simp only [Act.put, List.getElem_toArray, List.getElem_cons_zero, List.getElem_cons_succ, List.setIfInBounds_toArray, List.set_cons_zero, List.set_cons_succ])
                  refine wpDet_take ?vX61 (Bl.stays wr) (fun _ h => h) (i := 61) rfl (by kernel_rfl) (by kernel_rfl) (by kernel_rfl) (by kernel_rfl) (fun _ _ _ h => h) (Gives.value (by rfl) ?yX61) ?rX61
                  case yX61 => (intro w' hSw; (try dsimp only at hSw); go_simp; try with_reducible rfl)
                  (try simp only [Act.put, List.getElem_toArray, List.getElem_cons_zero, List.getElem_cons_succ, List.setIfInBounds_toArray, List.set_cons_zero, List.set_cons_succ])
                  refine wpDet_take ?vX62 (Bl.stays wr) (fun _ h => h) (i := 62) rfl (by kernel_rfl) (by kernel_rfl) (by kernel_rfl) (by kernel_rfl) (fun _ _ _ h => h) (Gives.value (by rfl) ?yX62) ?rX62
                  case yX62 => (intro w' hSw; (try dsimp only at hSw); go_simp; try with_reducible rfl)
                  (try simp only [Act.put, List.getElem_toArray, List.getElem_cons_zero, List.getElem_cons_succ, List.setIfInBounds_toArray, List.set_cons_zero, List.set_cons_succ])
                  refine wpDet_take (.bool true) (Bl.stays wr) (fun _ h => h) (i := 63) rfl (by kernel_rfl) (by kernel_rfl) (by kernel_rfl) (by kernel_rfl) (fun _ _ _ h => h) (Gives.call 12 #[] (by rfl) (fun _ => by first | (go_simp; done) | (go_simp; rfl)) (fun W hW => (awake_any _ (hTV.up hW)))) ?_
                  (try simp only [Act.put, List.getElem_toArray, List.getElem_cons_zero, List.getElem_cons_succ, List.setIfInBounds_toArray, List.set_cons_zero, List.set_cons_succ])
                  refine wpDet_take ?vX64 (Bl.stays wr) (fun _ h => h) (i := 64) rfl (by kernel_rfl) (by kernel_rfl) (by kernel_rfl) (by kernel_rfl) (fun _ _ _ h => h) (Gives.value (by rfl) ?yX64) ?rX64
                  case yX64 => (intro w' hSw; (try dsimp only at hSw); go_simp; try with_reducible rfl)
                  (try simp only [Act.put, List.getElem_toArray, List.getElem_cons_zero, List.getElem_cons_succ, List.setIfInBounds_toArray, List.set_cons_zero, List.set_cons_succ])
                  refine wpDet_take ?vX65 (Bl.stays wr) (fun _ h => h) (i := 65) rfl (by kernel_rfl) (by kernel_rfl) (by kernel_rfl) (by kernel_rfl) (fun _ _ _ h => h) (Gives.value (by rfl) ?yX65) ?rX65
                  case yX65 => (intro w' hSw; (try dsimp only at hSw); go_simp; try with_reducible rfl)
                  (try simp only [Act.put, List.getElem_toArray, List.getElem_cons_zero, List.getElem_cons_succ, List.setIfInBounds_toArray, List.set_cons_zero, List.set_cons_succ])
                  refine wpDet_done (by kernel_rfl) (fun W9 hV => ?_) _
                  have hB9 := HB.trans ((Bl.out hV).mono HB.size)
                  go_wp2_with fail
                  go_ret
                  exact ⟨rfl, hB9⟩
          · as_aux_lemma =>
              have hz : (chkE ix ep C D != 0) = true := by simpa using hcz
              generalize chkE ix ep C D = ce at *
              clear hcz
              have hW := awake_any _ (hT.up HB)
              go_wp2_with fail
              refine hW.mono ?_
              rintro e w9 ⟨rfl, hb9⟩
              go_wp2_with fail
              go_ret
              exact ⟨rfl, HB.trans (hb9.mono HB.size)⟩

end Go.Proofs.YtnbgdkdnlfomeaaDoor.M
