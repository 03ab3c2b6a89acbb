/-
  Own text: the contract of a table.
-/
import Derived.Test.YtnbgdkdnlfomeaaDoorBTb0
namespace Go.Proofs.YtnbgdkdnlfomeaaDoor.M
open Go.ChangeShapes Go.WideShapes Go.ChangeAt Go.RowKit Go.ChangeMaps Go.MapKept Go.Maps Go.Shelf Go.Proofs
set_option linter.unusedSimpArgs false

theorem rd_of1 {T : Type} (S : Shp T) {t : TypeId} (w : World) (x : T) (cs : Array Value) (h : S.cs x = cs.toList) : RdG S (w.alloc (.cells cs t)) (some ⟨w.heap.size, 0, none⟩) 1 1 [x] := by
  have hA := At.new t w cs
  refine ⟨rfl, Nat.le_refl _, (fun h => by cases h), fun _ => ⟨_, _, rfl, fun j u hj => ?_⟩⟩
  rw [Nat.zero_add, At.cell hA j]
  unfold Shp.fl at hj
  rw [List.flatMap_cons, List.flatMap_nil, List.append_nil, h] at hj
  rw [← hj, Array.getElem?_toList]

theorem sortC_eq {V L : List Ce} (hK : Keys L) (h : V.Perm L) (hV : Keys V) : sortC V = sortC L := rise_eq (sortC_rise V hV) (sortC_rise L hK) ((sortC_perm V).trans (h.trans (sortC_perm L).symm))

theorem MR.keys {w : World} {b r : Nat} {L V : List Ce} (h : MR w b r L V) : Keys V := ⟨h.one, fun c hc => h.ks.2 c (h.sub c hc)⟩

set_option maxRecDepth 20000 in
set_option maxHeartbeats 4000000 in
theorem table_any (m : Sm) (b : Nat) (w : World) (hM : MC w b m.cs) (hn : m.cs.length ≤ 12) :
    Calls Tryd.prog 48 #[.agg #[.int .i64 m.ix, .int .i64 m.ep, .map (some b), .int .i64 (m.d 0).c, .int .i64 (m.d 0).q, .int .i64 (m.d 0).v, .int .i64 (m.d 1).c, .int .i64 (m.d 1).q, .int .i64 (m.d 1).v, .int .i64 (m.d 2).c, .int .i64 (m.d 2).q, .int .i64 (m.d 2).v, .int .i64 (m.d 3).c, .int .i64 (m.d 3).q, .int .i64 (m.d 3).v]] w fun e w' => ∃ pc cc pd cd, e = .returned (.agg #[.int .i64 m.ix, .int .i64 m.ep, .slice pc m.cs.length cc, .slice pd (donL m 4).length cd]) ∧ RdG celS w' pc m.cs.length cc (sortC m.cs) ∧ RdG donS w' pd (donL m 4).length cd (donL m 4) ∧ (0 < m.cs.length → ∀ a, pc = some a → w.heap.size ≤ a.block) ∧ (0 < (donL m 4).length → ∀ a, pd = some a → w.heap.size ≤ a.block) ∧ Below w.heap.size w w' := by
  obtain ⟨ic, hic, hcz0, hcz1, hcz2⟩ := info_parts infoCel
  obtain ⟨id, hid, hdz0, hdz1, hdz2⟩ := info_parts infoDon
  have hbw := hM.lt
  have e1 : (w.alloc (.cells #[.int .i64 m.ix, .int .i64 m.ep, .map (some b), .int .i64 (m.d 0).c, .int .i64 (m.d 0).q, .int .i64 (m.d 0).v, .int .i64 (m.d 1).c, .int .i64 (m.d 1).q, .int .i64 (m.d 1).v, .int .i64 (m.d 2).c, .int .i64 (m.d 2).q, .int .i64 (m.d 2).v, .int .i64 (m.d 3).c, .int .i64 (m.d 3).q, .int .i64 (m.d 3).v] 85)).heap.size = w.heap.size + 1 := by simp
  have e2 : ((w.alloc (.cells #[.int .i64 m.ix, .int .i64 m.ep, .map (some b), .int .i64 (m.d 0).c, .int .i64 (m.d 0).q, .int .i64 (m.d 0).v, .int .i64 (m.d 1).c, .int .i64 (m.d 1).q, .int .i64 (m.d 1).v, .int .i64 (m.d 2).c, .int .i64 (m.d 2).q, .int .i64 (m.d 2).v, .int .i64 (m.d 3).c, .int .i64 (m.d 3).q, .int .i64 (m.d 3).v] 85)).alloc (.cells #[.int .i64 0, .int .i64 0, .slice none 0 0, .slice none 0 0] 25)).heap.size = w.heap.size + 1 + 1 := by simp
  have e3 : (((w.alloc (.cells #[.int .i64 m.ix, .int .i64 m.ep, .map (some b), .int .i64 (m.d 0).c, .int .i64 (m.d 0).q, .int .i64 (m.d 0).v, .int .i64 (m.d 1).c, .int .i64 (m.d 1).q, .int .i64 (m.d 1).v, .int .i64 (m.d 2).c, .int .i64 (m.d 2).q, .int .i64 (m.d 2).v, .int .i64 (m.d 3).c, .int .i64 (m.d 3).q, .int .i64 (m.d 3).v] 85)).alloc (.cells #[.int .i64 0, .int .i64 0, .slice none 0 0, .slice none 0 0] 25)).alloc (.cells #[.int .i64 m.ix, .int .i64 m.ep, .slice none 0 0, .slice none 0 0] 25)).heap.size = w.heap.size + 1 + 1 + 1 := by simp
  have hb3 : Below w.heap.size w (((w.alloc (.cells #[.int .i64 m.ix, .int .i64 m.ep, .map (some b), .int .i64 (m.d 0).c, .int .i64 (m.d 0).q, .int .i64 (m.d 0).v, .int .i64 (m.d 1).c, .int .i64 (m.d 1).q, .int .i64 (m.d 1).v, .int .i64 (m.d 2).c, .int .i64 (m.d 2).q, .int .i64 (m.d 2).v, .int .i64 (m.d 3).c, .int .i64 (m.d 3).q, .int .i64 (m.d 3).v] 85)).alloc (.cells #[.int .i64 0, .int .i64 0, .slice none 0 0, .slice none 0 0] 25)).alloc (.cells #[.int .i64 m.ix, .int .i64 m.ep, .slice none 0 0, .slice none 0 0] 25)) := (((Below.refl _ w).alloc (Nat.le_refl _) _).alloc (by omega) _).alloc (by omega) _
  obtain ⟨o, hro, hmr, hlf⟩ := (hM.below hb3).range
  have hTS : TS w m b w.heap.size (w.heap.size + 1) (w.heap.size + 1 + 1) (w.heap.size + 1 + 1 + 1) none 0 0 [] ((((w.alloc (.cells #[.int .i64 m.ix, .int .i64 m.ep, .map (some b), .int .i64 (m.d 0).c, .int .i64 (m.d 0).q, .int .i64 (m.d 0).v, .int .i64 (m.d 1).c, .int .i64 (m.d 1).q, .int .i64 (m.d 1).v, .int .i64 (m.d 2).c, .int .i64 (m.d 2).q, .int .i64 (m.d 2).v, .int .i64 (m.d 3).c, .int .i64 (m.d 3).q, .int .i64 (m.d 3).v] 85)).alloc (.cells #[.int .i64 0, .int .i64 0, .slice none 0 0, .slice none 0 0] 25)).alloc (.cells #[.int .i64 m.ix, .int .i64 m.ep, .slice none 0 0, .slice none 0 0] 25)).alloc o) := by
    refine ⟨hb3.alloc (by omega) _, ?_, ?_, ?_, by rw [← e3]; exact hmr, OwG.none _ _ _ _, (fun k hk => absurd hk.1 (Nat.lt_irrefl _)), by omega⟩
    · exact (((At.new _ w _).alloc _).alloc _).alloc _
    · rw [← e1]
      exact ((At.new _ _ _).alloc _).alloc _
    · rw [← e2]
      exact (At.new _ _ _).alloc _
  rw [e3] at hro hlf
  have HT : Hid (TS w m b w.heap.size (w.heap.size + 1) (w.heap.size + 1 + 1) (w.heap.size + 1 + 1 + 1) none 0 0 [] ((((w.alloc (.cells #[.int .i64 m.ix, .int .i64 m.ep, .map (some b), .int .i64 (m.d 0).c, .int .i64 (m.d 0).q, .int .i64 (m.d 0).v, .int .i64 (m.d 1).c, .int .i64 (m.d 1).q, .int .i64 (m.d 1).v, .int .i64 (m.d 2).c, .int .i64 (m.d 2).q, .int .i64 (m.d 2).v, .int .i64 (m.d 3).c, .int .i64 (m.d 3).q, .int .i64 (m.d 3).v] 85)).alloc (.cells #[.int .i64 0, .int .i64 0, .slice none 0 0, .slice none 0 0] 25)).alloc (.cells #[.int .i64 m.ix, .int .i64 m.ep, .slice none 0 0, .slice none 0 0] 25)).alloc o)) := hTS
  clear hTS hmr hb3 hM e1 e2 e3
  go_enter Tryd.func48, Tryd.ntmps48
  go_wp2_with fail
  clear hro
  have hTS := HT.out
  clear HT
  generalize (((w.alloc (.cells #[.int .i64 m.ix, .int .i64 m.ep, .map (some b), .int .i64 (m.d 0).c, .int .i64 (m.d 0).q, .int .i64 (m.d 0).v, .int .i64 (m.d 1).c, .int .i64 (m.d 1).q, .int .i64 (m.d 1).v, .int .i64 (m.d 2).c, .int .i64 (m.d 2).q, .int .i64 (m.d 2).v, .int .i64 (m.d 3).c, .int .i64 (m.d 3).q, .int .i64 (m.d 3).v] 85)).alloc (.cells #[.int .i64 0, .int .i64 0, .slice none 0 0, .slice none 0 0] 25)).alloc (.cells #[.int .i64 m.ix, .int .i64 m.ep, .slice none 0 0, .slice none 0 0] 25)).alloc o = V0 at *
  generalize w.heap.size + 1 + 1 + 1 = r at *
  generalize w.heap.size + 1 + 1 = g3 at *
  generalize w.heap.size + 1 = g2 at *
  go_loopw [16] (fun _ wr => ∃ (p : Option Addr) (n c : Nat) (V : List Ce), TS w m b w.heap.size g2 g3 r p n c V wr ∧ n + leftC wr b r ≤ 12) (fun _ wr => leftC wr b r)
  case atStart => exact ⟨none, 0, 0, [], hTS, by omega⟩
  case round =>
    clear hTS hlf
    obtain ⟨p, n, c, V, hT, hnl⟩ := hrel
    rcases hT.it.next 0 with ⟨hrun, hend⟩ | ⟨x, w2, hxL, hrun, hmr2, hlv, hs2, ho2, ht2, hp2, hbk, hent⟩
    · have hnl2 : Hid (n = m.cs.length) := by unfold Hid; rw [← hT.ow.len]; exact hend.length_eq
      have hS := sortC_any hT.ow (by have := hnl2.out; omega) hT.it.keys
      rw [sortC_eq hT.it.ks hend hT.it.keys] at hS
      have k2 := At.cell hT.s3 2
      simp only [List.getElem?_toArray, List.getElem?_cons_zero, List.getElem?_cons_succ] at k2
      have HT : Hid (TS w m b w.heap.size g2 g3 r p n c V wr) := hT
      clear hT hend hnl
      go_wp2_with fail
      refine hS.mono ?_
      rintro e w4 ⟨rfl, hR, hch⟩
      have hT := HT.out
      have hmm := hT.mm
      obtain ⟨o1, o2, o3, o4, o5⟩ := hT.ord
      have hkp : ∀ g, g ≤ r → g < wr.heap.size → w4.heap[g]? = wr.heap[g]? := fun g hg hl => hch.block g hl fun e => by have := hmm g e; omega
      have hs1 : SumAt w4 w.heap.size m b := At.same hT.s1 (hkp _ (by omega) (At.lt hT.s1))
      have hTD : TD w m g2 g3 p n c (sortC m.cs) none 0 0 (donL m 0) w4 := by
        refine ⟨(hT.bel.trans (hch.below hT.bel.size fun k hk => by have := hmm k hk; omega)), At.same hT.s2 (hkp _ (by omega) (At.lt hT.s2)), At.same hT.s3 (hkp _ (by omega) (At.lt hT.s3)), hR, fun h0 a ha => ?_, OwG.none _ _ _ _, (fun k hk => absurd hk.1 (Nat.lt_irrefl _)), by omega⟩
        have hcap := hT.ow.rd.cap
        have := hmm a.block ⟨by omega, a, ha, rfl⟩
        omega
      obtain ⟨z0, z1, z2, z3, z4, z5, z6, z7, z8, z9, z10, z11, z12, z13, z14⟩ := hs1.cells
      clear hS k2 HT hT hmm hkp hs1 hR hch z0 z1 z2
      go_wp2_with fail
      clear z3 z4 z5 z6 z7 z8 z9 z10 z11 z12 z13 z14
      go_loopw [31] (fun i wr => ∃ (k kk d : Nat) (q : Option Addr), k ≤ 4 ∧ i = .int .i64 k ∧ TD w m g2 g3 p n c (sortC m.cs) q kk d (donL m k) wr ∧ kk ≤ k) (fun i _ => 4 - (intOf i).toNat)
      case atStart => exact ⟨0, 0, 0, none, by omega, rfl, hTD, by omega⟩
      case round =>
        rename_i wk _ _
        clear hTD
        obtain ⟨k, kk, d, q, hk, rfl, hT, hkk⟩ := hrel
        by_cases hk4 : k < 4
        · have hki : (k : Int) < 4 := by omega
          have hix := fun W => idx4 m k hk4 W
          by_cases hq : 0 < (m.d k).q
          · have hD := donL_yes hq
            generalize m.d k = x at *
            obtain ⟨xc, xq, xv⟩ := x
            dsimp only at *
            have hsx : (wr.alloc (.cells #[.int .i64 (Dn.mk xc xq xv).c, .int .i64 (Dn.mk xc xq xv).q, .int .i64 (Dn.mk xc xq xv).v] 82)).heap.size = wr.heap.size + 1 := by simp
            have hb3 : Below wr.heap.size wr (wr.alloc (.cells #[.int .i64 (Dn.mk xc xq xv).c, .int .i64 (Dn.mk xc xq xv).q, .int .i64 (Dn.mk xc xq xv).v] 82)) := (Below.refl _ wr).alloc (Nat.le_refl _) _
            have hb4 : Below wr.heap.size wr ((wr.alloc (.cells #[.int .i64 (Dn.mk xc xq xv).c, .int .i64 (Dn.mk xc xq xv).q, .int .i64 (Dn.mk xc xq xv).v] 82)).alloc (.cells #[.int .i64 (Dn.mk xc xq xv).c, .int .i64 (Dn.mk xc xq xv).q, .int .i64 (Dn.mk xc xq xv).v] 82)) := hb3.alloc (by omega) _
            have hT3 := hT.below hb3
            have hT4 := hT.below hb4
            have hr4 := rd_of1 donS (t := 82) (wr.alloc (.cells #[.int .i64 (Dn.mk xc xq xv).c, .int .i64 (Dn.mk xc xq xv).q, .int .i64 (Dn.mk xc xq xv).v] 82)) (Dn.mk xc xq xv) #[.int .i64 (Dn.mk xc xq xv).c, .int .i64 (Dn.mk xc xq xv).q, .int .i64 (Dn.mk xc xq xv).v] rfl
            obtain ⟨p9, c9, w9, hrun9, ho9, hch9, hnew9⟩ := run_appG (P := Tryd.prog) ((wr.alloc (.cells #[.int .i64 (Dn.mk xc xq xv).c, .int .i64 (Dn.mk xc xq xv).q, .int .i64 (Dn.mk xc xq xv).v] 82)).alloc (.cells #[.int .i64 (Dn.mk xc xq xv).c, .int .i64 (Dn.mk xc xq xv).q, .int .i64 (Dn.mk xc xq xv).v] 82)) 23 23 82 id _ 24 Tryd.underlying23 hid hdz0 hdz1 hdz2 rfl hT4.ow hr4 (by omega) (by unfold maxLen; omega) hT4.bel.size
            have hTn := hT4.next (Dn.mk xc xq xv) p9 c9 w9 ho9 hch9 hnew9
            rw [← hD] at hTn
            have h39 : At 25 w9 g3 #[.int .i64 m.ix, .int .i64 m.ep, .slice p n c, .slice q kk d] := At.same hT4.s3 (hch9.block g3 (At.lt hT4.s3) (fun e => by have := (hT4.mm g3 e).1; omega))
            have k2 := At.cell hT3.s3 3
            have k9 := At.cell h39 3
            have f9 := At.free h39 3
            obtain ⟨y0, y1, y2⟩ := don_box (At.new 82 wr #[.int .i64 (Dn.mk xc xq xv).c, .int .i64 (Dn.mk xc xq xv).q, .int .i64 (Dn.mk xc xq xv).v])
            simp only [List.getElem?_toArray, List.getElem?_cons_zero, List.getElem?_cons_succ] at k2 k9
            dsimp only at *
            rw [hsx] at hrun9
            clear hT hT3 hT4 hb3 hb4 hr4 ho9 hch9 hnew9 h39
            go_wp2_with (refine wpList_app_run rfl (.tmp 38) (.tmp 40) 23 rfl _ _ rfl rfl hrun9 ?_)
            exact ⟨⟨k + 1, kk + 1, c9, p9, by omega, by go_num, hTn, by omega⟩, by simp [intOf]; omega⟩
          · have hD := donL_no hq
            generalize m.d k = x at *
            obtain ⟨xc, xq, xv⟩ := x
            dsimp only at *
            have hb3 : Below wr.heap.size wr (wr.alloc (.cells #[.int .i64 (Dn.mk xc xq xv).c, .int .i64 (Dn.mk xc xq xv).q, .int .i64 (Dn.mk xc xq xv).v] 82)) := (Below.refl _ wr).alloc (Nat.le_refl _) _
            have hT3 := hT.below hb3
            rw [← hD] at hT3
            obtain ⟨y0, y1, y2⟩ := don_box (At.new 82 wr #[.int .i64 (Dn.mk xc xq xv).c, .int .i64 (Dn.mk xc xq xv).q, .int .i64 (Dn.mk xc xq xv).v])
            dsimp only at *
            clear hT hb3
            go_wp2_with fail
            exact ⟨⟨k + 1, kk, d, q, by omega, by go_num, hT3, by omega⟩, by simp [intOf]; omega⟩
        · obtain rfl : k = 4 := by omega
          have hlk := hT.ow.len
          subst hlk
          have hs2 := hT.s2
          have hs3 := hT.s3
          have hrd := hT.rd
          have how := hT.ow.rd
          have hpn := hT.pn
          have hbel := hT.bel
          have hmm := hT.mm
          have hord := hT.ord
          clear hT
          go_wp2_with (first | refine wpList_load_row rfl 25 _ rfl g3 rfl _ _ _ _ hs3 Tryd.underlying25 rfl infoTb ?_ | refine wpList_store_row rfl 25 _ _ rfl g2 #[.int .i64 m.ix, .int .i64 m.ep, .slice p n c, .slice q (donL m 4).length d] rfl rfl _ _ hs2 infoTb rfl (by simp [Value.oneCell']) ?_)
          have hbr := At.row hs2 #[.int .i64 m.ix, .int .i64 m.ep, .slice p n c, .slice q (donL m 4).length d]
          have hcr := Ch.setRow wr g2 #[.int .i64 m.ix, .int .i64 m.ep, .slice p n c, .slice q (donL m 4).length d]
          refine bodyPost_ret (v := .agg #[.int .i64 m.ix, .int .i64 m.ep, .slice p n c, .slice q (donL m 4).length d]) (results_cell_row rfl _ _ g2 _ _ _ _ rfl hbr Tryd.underlying25 rfl infoTb) rfl ?_
          refine ⟨p, c, q, d, by rw [hnl2.out], ?_, ?_, (by rw [← hnl2.out]; exact fun h0 a ha => by have := hpn h0 a ha; omega), (fun h0 a ha => by have hcap := how.cap; have := (hmm a.block ⟨by omega, a, ha, rfl⟩).1; omega), hbel.trans (below_setRow (B := w.heap.size) wr g2 _ hord.1)⟩
          · rw [← hnl2.out]
            exact hrd.ch hcr fun h0 a ha e => by have := hpn h0 a ha; omega
          · exact how.ch hcr fun h0 a ha e => by have hcap := how.cap; have := (hmm a.block ⟨by omega, a, ha, rfl⟩).1; omega
    · obtain ⟨xk, xv, xs⟩ := x
      have hen2 := hent w2 rfl rfl
      unfold keyV celV at hrun hen2
      dsimp only at hrun hen2
      have hsx : (w2.alloc (.cells #[.int .u8 (bt (Ce.mk xk xv xs).k 0), .int .u8 (bt (Ce.mk xk xv xs).k 1), .int .u8 (bt (Ce.mk xk xv xs).k 2), .int .u8 (bt (Ce.mk xk xv xs).k 3), .int .u8 (bt (Ce.mk xk xv xs).k 4), .int .u8 (bt (Ce.mk xk xv xs).k 5), .int .u8 (bt (Ce.mk xk xv xs).k 6), .int .u8 (bt (Ce.mk xk xv xs).k 7), .int .i64 (Ce.mk xk xv xs).v, .string (Ce.mk xk xv xs).s] 53)).heap.size = w2.heap.size + 1 := by simp
      have hb4 : Below w2.heap.size w2 ((w2.alloc (.cells #[.int .u8 (bt (Ce.mk xk xv xs).k 0), .int .u8 (bt (Ce.mk xk xv xs).k 1), .int .u8 (bt (Ce.mk xk xv xs).k 2), .int .u8 (bt (Ce.mk xk xv xs).k 3), .int .u8 (bt (Ce.mk xk xv xs).k 4), .int .u8 (bt (Ce.mk xk xv xs).k 5), .int .u8 (bt (Ce.mk xk xv xs).k 6), .int .u8 (bt (Ce.mk xk xv xs).k 7), .int .i64 (Ce.mk xk xv xs).v, .string (Ce.mk xk xv xs).s] 53)).alloc (.cells #[.int .u8 (bt (Ce.mk xk xv xs).k 0), .int .u8 (bt (Ce.mk xk xv xs).k 1), .int .u8 (bt (Ce.mk xk xv xs).k 2), .int .u8 (bt (Ce.mk xk xv xs).k 3), .int .u8 (bt (Ce.mk xk xv xs).k 4), .int .u8 (bt (Ce.mk xk xv xs).k 5), .int .u8 (bt (Ce.mk xk xv xs).k 6), .int .u8 (bt (Ce.mk xk xv xs).k 7), .int .i64 (Ce.mk xk xv xs).v, .string (Ce.mk xk xv xs).s] 53)) := ((Below.refl _ w2).alloc (Nat.le_refl _) _).alloc (by omega) _
      have hb3 : Below w2.heap.size w2 (w2.alloc (.cells #[.int .u8 (bt (Ce.mk xk xv xs).k 0), .int .u8 (bt (Ce.mk xk xv xs).k 1), .int .u8 (bt (Ce.mk xk xv xs).k 2), .int .u8 (bt (Ce.mk xk xv xs).k 3), .int .u8 (bt (Ce.mk xk xv xs).k 4), .int .u8 (bt (Ce.mk xk xv xs).k 5), .int .u8 (bt (Ce.mk xk xv xs).k 6), .int .u8 (bt (Ce.mk xk xv xs).k 7), .int .i64 (Ce.mk xk xv xs).v, .string (Ce.mk xk xv xs).s] 53)) := (Below.refl _ w2).alloc (Nat.le_refl _) _
      have hex : Ch (fun k => k = r) wr w2 := ⟨ho2, ht2, hp2, by omega, fun k _ hk => hbk k hk⟩
      have hmm := hT.mm
      have ho4 : OwG celS 53 ((w2.alloc (.cells #[.int .u8 (bt (Ce.mk xk xv xs).k 0), .int .u8 (bt (Ce.mk xk xv xs).k 1), .int .u8 (bt (Ce.mk xk xv xs).k 2), .int .u8 (bt (Ce.mk xk xv xs).k 3), .int .u8 (bt (Ce.mk xk xv xs).k 4), .int .u8 (bt (Ce.mk xk xv xs).k 5), .int .u8 (bt (Ce.mk xk xv xs).k 6), .int .u8 (bt (Ce.mk xk xv xs).k 7), .int .i64 (Ce.mk xk xv xs).v, .string (Ce.mk xk xv xs).s] 53)).alloc (.cells #[.int .u8 (bt (Ce.mk xk xv xs).k 0), .int .u8 (bt (Ce.mk xk xv xs).k 1), .int .u8 (bt (Ce.mk xk xv xs).k 2), .int .u8 (bt (Ce.mk xk xv xs).k 3), .int .u8 (bt (Ce.mk xk xv xs).k 4), .int .u8 (bt (Ce.mk xk xv xs).k 5), .int .u8 (bt (Ce.mk xk xv xs).k 6), .int .u8 (bt (Ce.mk xk xv xs).k 7), .int .i64 (Ce.mk xk xv xs).v, .string (Ce.mk xk xv xs).s] 53)) w.heap.size p n c V := (hT.ow.ch hex (fun k hk e => by have := hmm k hk; omega)).below hb4
      have hr4 := rd_of1 celS (t := 53) (w2.alloc (.cells #[.int .u8 (bt (Ce.mk xk xv xs).k 0), .int .u8 (bt (Ce.mk xk xv xs).k 1), .int .u8 (bt (Ce.mk xk xv xs).k 2), .int .u8 (bt (Ce.mk xk xv xs).k 3), .int .u8 (bt (Ce.mk xk xv xs).k 4), .int .u8 (bt (Ce.mk xk xv xs).k 5), .int .u8 (bt (Ce.mk xk xv xs).k 6), .int .u8 (bt (Ce.mk xk xv xs).k 7), .int .i64 (Ce.mk xk xv xs).v, .string (Ce.mk xk xv xs).s] 53)) (Ce.mk xk xv xs) #[.int .u8 (bt (Ce.mk xk xv xs).k 0), .int .u8 (bt (Ce.mk xk xv xs).k 1), .int .u8 (bt (Ce.mk xk xv xs).k 2), .int .u8 (bt (Ce.mk xk xv xs).k 3), .int .u8 (bt (Ce.mk xk xv xs).k 4), .int .u8 (bt (Ce.mk xk xv xs).k 5), .int .u8 (bt (Ce.mk xk xv xs).k 6), .int .u8 (bt (Ce.mk xk xv xs).k 7), .int .i64 (Ce.mk xk xv xs).v, .string (Ce.mk xk xv xs).s] rfl
      have hBs : w.heap.size ≤ ((w2.alloc (.cells #[.int .u8 (bt (Ce.mk xk xv xs).k 0), .int .u8 (bt (Ce.mk xk xv xs).k 1), .int .u8 (bt (Ce.mk xk xv xs).k 2), .int .u8 (bt (Ce.mk xk xv xs).k 3), .int .u8 (bt (Ce.mk xk xv xs).k 4), .int .u8 (bt (Ce.mk xk xv xs).k 5), .int .u8 (bt (Ce.mk xk xv xs).k 6), .int .u8 (bt (Ce.mk xk xv xs).k 7), .int .i64 (Ce.mk xk xv xs).v, .string (Ce.mk xk xv xs).s] 53)).alloc (.cells #[.int .u8 (bt (Ce.mk xk xv xs).k 0), .int .u8 (bt (Ce.mk xk xv xs).k 1), .int .u8 (bt (Ce.mk xk xv xs).k 2), .int .u8 (bt (Ce.mk xk xv xs).k 3), .int .u8 (bt (Ce.mk xk xv xs).k 4), .int .u8 (bt (Ce.mk xk xv xs).k 5), .int .u8 (bt (Ce.mk xk xv xs).k 6), .int .u8 (bt (Ce.mk xk xv xs).k 7), .int .i64 (Ce.mk xk xv xs).v, .string (Ce.mk xk xv xs).s] 53)).heap.size := by have := hT.bel.size; have := hb4.size; omega
      obtain ⟨p9, c9, w9, hrun9, ho9, hch9, hnew9⟩ := run_appG (P := Tryd.prog) ((w2.alloc (.cells #[.int .u8 (bt (Ce.mk xk xv xs).k 0), .int .u8 (bt (Ce.mk xk xv xs).k 1), .int .u8 (bt (Ce.mk xk xv xs).k 2), .int .u8 (bt (Ce.mk xk xv xs).k 3), .int .u8 (bt (Ce.mk xk xv xs).k 4), .int .u8 (bt (Ce.mk xk xv xs).k 5), .int .u8 (bt (Ce.mk xk xv xs).k 6), .int .u8 (bt (Ce.mk xk xv xs).k 7), .int .i64 (Ce.mk xk xv xs).v, .string (Ce.mk xk xv xs).s] 53)).alloc (.cells #[.int .u8 (bt (Ce.mk xk xv xs).k 0), .int .u8 (bt (Ce.mk xk xv xs).k 1), .int .u8 (bt (Ce.mk xk xv xs).k 2), .int .u8 (bt (Ce.mk xk xv xs).k 3), .int .u8 (bt (Ce.mk xk xv xs).k 4), .int .u8 (bt (Ce.mk xk xv xs).k 5), .int .u8 (bt (Ce.mk xk xv xs).k 6), .int .u8 (bt (Ce.mk xk xv xs).k 7), .int .i64 (Ce.mk xk xv xs).v, .string (Ce.mk xk xv xs).s] 53)) 22 22 53 ic _ 32 Tryd.underlying22 hic hcz0 hcz1 hcz2 rfl ho4 hr4 (by omega) (by unfold maxLen; omega) hBs
      have hTn := hT.next (Ce.mk xk xv xs) hmr2 hs2 ho2 ht2 hp2 hbk p9 c9 ((w2.alloc (.cells #[.int .u8 (bt (Ce.mk xk xv xs).k 0), .int .u8 (bt (Ce.mk xk xv xs).k 1), .int .u8 (bt (Ce.mk xk xv xs).k 2), .int .u8 (bt (Ce.mk xk xv xs).k 3), .int .u8 (bt (Ce.mk xk xv xs).k 4), .int .u8 (bt (Ce.mk xk xv xs).k 5), .int .u8 (bt (Ce.mk xk xv xs).k 6), .int .u8 (bt (Ce.mk xk xv xs).k 7), .int .i64 (Ce.mk xk xv xs).v, .string (Ce.mk xk xv xs).s] 53)).alloc (.cells #[.int .u8 (bt (Ce.mk xk xv xs).k 0), .int .u8 (bt (Ce.mk xk xv xs).k 1), .int .u8 (bt (Ce.mk xk xv xs).k 2), .int .u8 (bt (Ce.mk xk xv xs).k 3), .int .u8 (bt (Ce.mk xk xv xs).k 4), .int .u8 (bt (Ce.mk xk xv xs).k 5), .int .u8 (bt (Ce.mk xk xv xs).k 6), .int .u8 (bt (Ce.mk xk xv xs).k 7), .int .i64 (Ce.mk xk xv xs).v, .string (Ce.mk xk xv xs).s] 53)) w9 hb4 ho9 hch9 hnew9
      have h3x : At 25 (w2.alloc (.cells #[.int .u8 (bt (Ce.mk xk xv xs).k 0), .int .u8 (bt (Ce.mk xk xv xs).k 1), .int .u8 (bt (Ce.mk xk xv xs).k 2), .int .u8 (bt (Ce.mk xk xv xs).k 3), .int .u8 (bt (Ce.mk xk xv xs).k 4), .int .u8 (bt (Ce.mk xk xv xs).k 5), .int .u8 (bt (Ce.mk xk xv xs).k 6), .int .u8 (bt (Ce.mk xk xv xs).k 7), .int .i64 (Ce.mk xk xv xs).v, .string (Ce.mk xk xv xs).s] 53)) g3 #[.int .i64 m.ix, .int .i64 m.ep, .slice p n c, .slice none 0 0] := At.below (At.same hT.s3 (hbk g3 (by have := hT.ord; omega))) hb3
      have h39 : At 25 w9 g3 #[.int .i64 m.ix, .int .i64 m.ep, .slice p n c, .slice none 0 0] := At.same (At.below (At.same hT.s3 (hbk g3 (by have := hT.ord; omega))) hb4) (hch9.block g3 (by have := At.lt (At.same hT.s3 (hbk g3 (by have := hT.ord; omega))); have := hb4.size; omega) (fun e => by have := hmm g3 e; have := hT.ord; omega))
      have k2 := At.cell h3x 2
      have k9 := At.cell h39 2
      have f9 := At.free h39 2
      obtain ⟨y0, y1, y2, y3, y4, y5, y6, y7, y8, y9⟩ := cel_box (At.new 53 w2 #[.int .u8 (bt (Ce.mk xk xv xs).k 0), .int .u8 (bt (Ce.mk xk xv xs).k 1), .int .u8 (bt (Ce.mk xk xv xs).k 2), .int .u8 (bt (Ce.mk xk xv xs).k 3), .int .u8 (bt (Ce.mk xk xv xs).k 4), .int .u8 (bt (Ce.mk xk xv xs).k 5), .int .u8 (bt (Ce.mk xk xv xs).k 6), .int .u8 (bt (Ce.mk xk xv xs).k 7), .int .i64 (Ce.mk xk xv xs).v, .string (Ce.mk xk xv xs).s])
      simp only [List.getElem?_toArray, List.getElem?_cons_zero, List.getElem?_cons_succ] at k2 k9
      dsimp only at *
      have hrun9' := hrun9
      rw [hsx] at hrun9'
      have HN : Hid (TS w m b w.heap.size g2 g3 r p9 (n + 1) c9 (V ++ [Ce.mk xk xv xs]) (w9.setCell ⟨g3, 2, none⟩ (.slice p9 (n + 1) c9)) ∧ n + 1 + leftC (w9.setCell ⟨g3, 2, none⟩ (.slice p9 (n + 1) c9)) b r ≤ 12 ∧ leftC (w9.setCell ⟨g3, 2, none⟩ (.slice p9 (n + 1) c9)) b r < leftC wr b r) := by
        refine ⟨hTn.1, ?_, ?_⟩
        · rw [hTn.2]; omega
        · rw [hTn.2]; exact hlv
      clear hTn hb4 hb3 hex hmm ho4 hr4 hBs ho9 hch9 hnew9 h3x h39 hent hbk hs2 ho2 ht2 hp2 hlv hmr2 hxL hT hrun9
      go_wp2_with (refine wpList_app_run rfl (.tmp 21) (.tmp 23) 22 rfl _ _ rfl rfl hrun9' ?_)
      exact ⟨⟨p9, n + 1, c9, _, HN.out.1, HN.out.2.1⟩, HN.out.2.2⟩

end Go.Proofs.YtnbgdkdnlfomeaaDoor.M
