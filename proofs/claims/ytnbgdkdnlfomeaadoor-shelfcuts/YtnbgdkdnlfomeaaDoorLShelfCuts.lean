/-
  Own text: the walk of the law ShelfCuts.
-/
import Derived.Test.YtnbgdkdnlfomeaaDoorBXt
namespace Go.Proofs.YtnbgdkdnlfomeaaDoor.M
open Go.ChangeShapes Go.WideShapes Go.ChangeAt Go.RowKit Go.ChangeMaps Go.MapKept Go.Maps Go.Shelf Go.Proofs
set_option linter.unusedSimpArgs false

/-- A table was told; two were. -/
def TB1 (w : World) (v : Value) (m : Sm) (W : World) : Prop := Bl w W ∧ TabR W v m
def TB2 (w : World) (v : Value) (m : Sm) (v2 : Value) (m2 : Sm) (W : World) : Prop := Bl w W ∧ TabR W v m ∧ TabR W v2 m2
theorem TB1.stays (w : World) (v : Value) (m : Sm) : Stays (TB1 w v m) := fun _ _ h hb => ⟨Bl.stays w _ _ h.1 hb, h.2.below hb⟩
theorem TB2.stays (w : World) (v : Value) (m : Sm) (v2 : Value) (m2 : Sm) : Stays (TB2 w v m v2 m2) := fun _ _ h hb => ⟨Bl.stays w _ _ h.1 hb, h.2.1.below hb, h.2.2.below hb⟩

/-- Ahead of round j: what was cut off, and so many of it added again. -/
structure LI (w : World) (o : Nat → Nat) (W : World) (g g2 : Nat) (s : Sh) (kk j : Nat) (p : Option Addr) (m c : Nat) : Prop where
  mo : MO w o W
  s1 : SX o 1 W g ⟨s.low, s.tail.take (kk + j), s.com⟩
  s2 : SX o 2 W g2 s
  ow : OwG recS 64 W 0 p m c (s.tail.drop kk)
  o0 : ∀ k, mine p c k → o k = 0

theorem LI.below {w : World} {o : Nat → Nat} {W W' : World} {g g2 : Nat} {s : Sh} {kk j : Nat} {p : Option Addr} {m c : Nat} (h : LI w o W g g2 s kk j p m c) (hb : Below W.heap.size W W') : LI w o W' g g2 s kk j p m c :=
  ⟨h.mo.below hb, h.s1.below hb, h.s2.below hb, h.ow.below hb, h.o0⟩

theorem LI.next {w : World} {o : Nat → Nat} {V W : World} {g g2 : Nat} {s : Sh} {kk j j' : Nat} {p : Option Addr} {m c : Nat} (h : LI w o V g g2 s kk j p m c) (hc : Stp o 1 V W) (h1 : SX (mkO o V W 1) 1 W g ⟨s.low, s.tail.take (kk + j'), s.com⟩) : LI w (mkO o V W 1) W g g2 s kk j' p m c := by
  obtain ⟨h2, h3⟩ := h.ow.other h.o0 hc (by decide)
  exact ⟨h.mo.step (by decide) hc, h1, h.s2.other hc (by decide), h2, h3⟩

set_option maxRecDepth 20000 in
set_option maxHeartbeats 4000000 in
theorem walk_ShelfCuts (w : World) (hT : Tabs w) (ix ep : Int) (cp : Option Addr) (cn cc : Nat) (C : List Ce) (dp : Option Addr) (dn dc : Nat) (D : List Dn) (hC : RdG celS w cp cn cc C) (hD : RdG donS w dp dn dc D) (hck : ∀ c ∈ C, Ce.fit c) (hcn : cn ≤ 9223372036854775807) (hdn : dn ≤ 9223372036854775807)
    (p : Option Addr) (n c : Nat) (ds : List Dv) (hr : RdG dooS w p n c ds) (hds : ∀ d ∈ ds, okD d) (hnn : n ≤ 9223372036854775807) (nn : Int) :
    Calls Tryd.prog 5 #[.agg #[.int .i64 ix, .int .i64 ep, .slice cp cn cc, .slice dp dn dc], .slice p n c, .int .i64 nn] w fun e w' => e = .returned (.bool true) ∧ Below w.heap.size w w' := by
  have HB := below_alloc' w (.cells #[.int .i64 ix, .int .i64 ep, .slice cp cn cc, .slice dp dn dc] 25)
  have hA := At.new 25 w #[.int .i64 ix, .int .i64 ep, .slice cp cn cc, .slice dp dn dc]
  generalize hW2 : (w.alloc (.cells #[.int .i64 ix, .int .i64 ep, .slice cp cn cc, .slice dp dn dc] 25)) = W2 at *
  have hsm := small_any ix ep cp cn cc C dp dn dc W2 (hC.below HB) hcn hdn
  go_enter Tryd.func5, Tryd.ntmps5
  go_wp2_with (refine wpList_load_row rfl 25 _ rfl w.heap.size rfl _ _ _ _ hA Tryd.underlying25 rfl infoTb ?_)
  refine hsm.mono ?_
  rintro e w3 ⟨⟨bb, rfl, hbb⟩, hb⟩
  clear hsm hW2
  replace HB := HB.trans (hb.mono HB.size)
  replace hA := hA.below hb
  clear hb
  cases bb with
  | false =>
    as_aux_lemma =>
      have hW := awake_any _ (hT.up HB)
      go_wp2_with fail
      refine hW.mono ?_
      rintro e w9 ⟨rfl, hb9⟩
      go_wp2_with fail
      go_ret
      exact ⟨rfl, HB.trans (hb9.mono HB.size)⟩
  | true =>
    as_aux_lemma =>
      obtain ⟨hcn1, hdn1⟩ := hbb rfl
      clear hbb
      have hsh := shortL_any (hr.below HB) hnn
      go_wp2_with fail
      refine hsh.mono ?_
      rintro e w4 ⟨⟨bb, rfl, hbb⟩, hb⟩
      clear hsh
      replace HB := HB.trans (hb.mono HB.size)
      replace hA := hA.below hb
      clear hb
      cases bb with
      | false =>
        have hW := awake_any _ (hT.up HB)
        go_wp2_with fail
        refine hW.mono ?_
        rintro e w9 ⟨rfl, hb9⟩
        go_wp2_with fail
        go_ret
        exact ⟨rfl, HB.trans (hb9.mono HB.size)⟩
      | true =>
        as_aux_lemma =>
          have hn1 := hbb rfl
          clear hbb
          have hch := check_any ix ep cp cn cc dp dn dc C D w4 (hC.below HB) (hD.below HB) (by omega) hck (hT.up HB)
          have hcz : (chkE ix ep C D = 0) ∨ ¬ (chkE ix ep C D = 0) := Classical.em _
          go_wp2_with (refine wpList_load_rowG rfl 25 _ rfl w.heap.size rfl _ _ _ _ hA Tryd.underlying25 rfl infoTb ?_)
          refine hch.mono ?_
          rintro e w5 ⟨rfl, hb⟩
          clear hch
          replace HB := HB.trans (hb.mono HB.size)
          replace hA := hA.below hb
          clear hb
          rcases hcz with hcz | hcz
          · as_aux_lemma =>
              have hmd := madeX (fun _ => 0) 1 ix ep cp cn cc dp dn dc C D w5 (hC.below HB) (hD.below HB) (by omega) hck (hT.up HB) (by omega) hcz p n c ds (hr.below HB) hds hnn
              have hkn := (frS_gd hcz).runs ds
              rw [hcz]
              generalize (frS ix ep C D).runs ds = s at *
              go_wp2_with (refine wpList_load_row rfl 25 _ rfl w.heap.size rfl _ _ _ _ hA Tryd.underlying25 rfl infoTb ?_)
              refine hmd.mono ?_
              rintro e w6 ⟨g, rfl, hb, hst, hS⟩
              clear hmd hcz
              have hM := (MO.none w w5 HB).step (i := 1) (by decide) hst
              replace HB := HB.trans (hb.mono HB.size)
              replace hA := hA.below hb
              clear hb hst
              generalize (mkO (fun _ => 0) w5 w6 1) = o1 at *
              clear hA hC hD hck hcn hdn hcn1 hdn1 hn1 hr hds hnn
              have hcl := cloneX o1 (j := 2) hS
              go_wp2_with fail
              refine hcl.mono ?_
              rintro e w7 ⟨g2, rfl, hb, hst, hC2⟩
              clear hcl hb HB
              replace hS := hS.other hst (by decide)
              replace hM := hM.step (i := 2) (by decide) hst
              clear hst
              generalize (mkO o1 w6 w7 2) = o2 at *
              have hi := hS.inv
              have hlast : s.last = s.low.ix + (s.tail.length : Nat) := rfl
              have hfew := hi.few
              obtain ⟨dq, hdq⟩ : ∃ dq : Nat, s.last - s.com = dq := ⟨(s.last - s.com).toNat, by have := hi.hi; omega⟩
              have hdq24 : dq ≤ 24 := by have h1 := hi.lo; omega
              obtain ⟨r, hr1, hr2⟩ := uat nn dq (by omega)
              obtain ⟨cq, hcq⟩ : ∃ cq : Nat, s.com = s.low.ix + cq := ⟨(s.com - s.low.ix).toNat, by have := hi.lo; omega⟩
              have hkk : cq + r ≤ s.tail.length := by omega
              have hix : 0 ≤ s.low.ix ∧ s.low.ix + s.tail.length ≤ 1099511627776 := ⟨hi.ix0, hi.ix1⟩
              have hW := commitX hS
              rw [hcq] at hW
              go_wp2_with fail
              refine hW.mono ?_
              rintro e w8 ⟨rfl, hb⟩
              clear hW
              replace hM := hM.below hb
              replace hS := hS.below hb
              replace hC2 := hC2.below hb
              clear hb
              have hW := dirtyX hS
              rw [hdq] at hW
              have hdqq : Hid (s.last - s.com = dq) := hdq
              have hcqq : Hid (s.com = s.low.ix + cq) := hcq
              clear hlast hdq hcq
              go_wp2_with fail
              refine hW.mono ?_
              rintro e w9 ⟨rfl, hb⟩
              clear hW
              replace hM := hM.below hb
              replace hS := hS.below hb
              replace hC2 := hC2.below hb
              clear hb
              have hne : ((dq : Int) + 1 == 0) = false := by simp; omega
              have hW := behY hS hkk (x := s.low.ix + cq + r) (by omega)
              have hatk : Hid (s.low.ix + (cq : Int) + r = s.low.ix + ((cq + r : Nat) : Int)) := by unfold Hid; omega
              go_wp2_with fail
              refine hW.mono ?_
              rintro e w10 ⟨p1, c1, rfl, hG, hb⟩
              clear hW hne hr2
              have hG0 : ∀ k, mine p1 c1 k → o2 k = 0 := fun k hk => Classical.byContradiction fun e => by have := (hM.pos _ e).2; have := (hG.lt hk).1; omega
              replace hG := hG.lower (Nat.zero_le _)
              replace hM := hM.below hb
              replace hS := hS.below hb
              replace hC2 := hC2.below hb
              clear hb
              have hW := cutX hS (s.low.ix + cq + r)
              have hco := cut_ok (s := s) (k := cq + r) (by have := hcqq.out; omega) hkk
              rw [← hatk.out] at hco
              rw [hco.1, hco.2] at hW
              clear hco
              go_wp2_with fail
              refine hW.mono ?_
              rintro e w11 ⟨rfl, hst, hS1⟩
              clear hW
              replace hC2 := hC2.other hst (by decide)
              obtain ⟨hG1, hG2⟩ := hG.other hG0 hst (by decide)
              replace hM := hM.step (i := 1) (by decide) hst
              clear hst hG hG0 hS
              generalize (mkO o2 w10 w11 1) = o3 at *
              have hW := dirtyX hS1
              have hdr : (⟨s.low, s.tail.take (cq + r), s.com⟩ : Sh).last - (⟨s.low, s.tail.take (cq + r), s.com⟩ : Sh).com = r := by
                show s.low.ix + ((s.tail.take (cq + r)).length : Nat) - s.com = r
                rw [List.length_take, Nat.min_eq_left hkk, hcqq.out]
                omega
              rw [hdr] at hW
              go_wp2_with fail
              refine hW.mono ?_
              rintro e w12 ⟨rfl, hb⟩
              clear hW hdr
              have hLI : LI w o3 w12 g g2 s (cq + r) 0 p1 (s.tail.length - (cq + r)) c1 := LI.below ⟨hM, hS1, hC2, hG1, hG2⟩ hb
              clear hb hM hS1 hC2 hG1 hG2
              have hW := commitX hLI.s1
              have hcx : (⟨s.low, s.tail.take (cq + r + 0), s.com⟩ : Sh).com = s.low.ix + cq := hcqq.out
              rw [hcx] at hW
              clear hcx
              go_wp2_with fail
              refine hW.mono ?_
              rintro e w13 ⟨rfl, hb⟩
              clear hW
              replace hLI := hLI.below hb
              clear hb
              have hsubr : s.low.ix + (cq : Int) + r - (s.low.ix + cq) = r := by omega
              go_wp2_with fail
              clear hsubr hatk hdqq hcqq
              have HGL : Hid (s.tail.length - (cq + r) + (cq + r) = s.tail.length) := Nat.sub_add_cancel hkk
              have hgl24 : s.tail.length - (cq + r) ≤ 24 := by omega
              generalize s.tail.length - (cq + r) = gl at *
              go_loopw [72] (fun i wr => ∃ (j : Nat) (o : Nat → Nat), j ≤ gl ∧ i = .int .i64 j ∧ LI w o wr g g2 s (cq + r) j p1 gl c1) (fun i _ => gl - (intOf i).toNat)
              case atStart => exact ⟨0, o3, Nat.zero_le _, rfl, hLI⟩
              case round =>
                clear hLI
                obtain ⟨j, o, hj, rfl, hL⟩ := hrel
                by_cases hjn : j < gl
                · as_aux_lemma =>
                    have hji : (j : Int) < (gl : Int) := by omega
                    obtain ⟨bb, of, rfl, _⟩ := hL.ow.rd.at (by omega)
                    have hrk := hL.ow.rd.rangeB (Below.refl _ _) hjn
                    have hjl : cq + r + j < s.tail.length := by have := HGL.out; omega
                    rw [show (s.tail.drop (cq + r)).getD j recS.z = s.tail.getD (cq + r + j) .z0 from by rw [List.getD_eq_getElem?_getD, List.getD_eq_getElem?_getD, List.getElem?_drop]; rfl] at hrk
                    have hst := okT_at hkn.ok hjl
                    have htn := take_next hjl
                    have hxm : s.tail.getD (cq + r + j) .z0 ∈ s.tail := by rw [List.getD_eq_getElem?_getD, List.getElem?_eq_getElem hjl]; exact List.getElem_mem hjl
                    have hxk := (hi.ok _ hxm).1
                    have hxs := right_size (stands_ok hst).2.2.2.2.1
                    have hrq := (stands_ok hst).2.2.2.2.2.1
                    have hof : okT s.low (s.tail.take (cq + r + j)) := by
                      have h := hkn.ok
                      rw [← List.take_append_drop (cq + r + j) s.tail] at h
                      exact (okT_app.1 h).1
                    have hnw := knw_new (com := s.com) hof (fun y hy => hi.ok y (List.mem_of_mem_take hy)) hst
                    have had := addE_of (s := (⟨s.low, s.tail.take (cq + r + j), s.com⟩ : Sh)) hst (by show (s.tail.take (cq + r + j)).length < 24; rw [List.length_take]; omega)
                    clear hxm hof
                    generalize s.tail.getD (cq + r + j) .z0 = x at *
                    obtain ⟨xi, xe, xk, xv, xs, xc, xq⟩ := x
                    dsimp only at hrk hxk hxs hrq hnw
                    have hrk2 : wr.rangeAt bb (of + j * 14) [.int .i64 (Rc.mk xi xe xk xv xs xc xq).ix, .int .i64 (Rc.mk xi xe xk xv xs xc xq).ep, .int .u8 (bt (Rc.mk xi xe xk xv xs xc xq).k 0), .int .u8 (bt (Rc.mk xi xe xk xv xs xc xq).k 1), .int .u8 (bt (Rc.mk xi xe xk xv xs xc xq).k 2), .int .u8 (bt (Rc.mk xi xe xk xv xs xc xq).k 3), .int .u8 (bt (Rc.mk xi xe xk xv xs xc xq).k 4), .int .u8 (bt (Rc.mk xi xe xk xv xs xc xq).k 5), .int .u8 (bt (Rc.mk xi xe xk xv xs xc xq).k 6), .int .u8 (bt (Rc.mk xi xe xk xv xs xc xq).k 7), .int .i64 (Rc.mk xi xe xk xv xs xc xq).v, .string (Rc.mk xi xe xk xv xs xc xq).s, .int .i64 (Rc.mk xi xe xk xv xs xc xq).c, .int .i64 (Rc.mk xi xe xk xv xs xc xq).q] := hrk
                    have hX0 := At.new 64 wr #[.int .i64 0, .int .i64 0, .int .u8 0, .int .u8 0, .int .u8 0, .int .u8 0, .int .u8 0, .int .u8 0, .int .u8 0, .int .u8 0, .int .i64 0, .string ⟨#[]⟩, .int .i64 0, .int .i64 0]
                    have hX := hX0.row #[.int .i64 (Rc.mk xi xe xk xv xs xc xq).ix, .int .i64 (Rc.mk xi xe xk xv xs xc xq).ep, .int .u8 (bt (Rc.mk xi xe xk xv xs xc xq).k 0), .int .u8 (bt (Rc.mk xi xe xk xv xs xc xq).k 1), .int .u8 (bt (Rc.mk xi xe xk xv xs xc xq).k 2), .int .u8 (bt (Rc.mk xi xe xk xv xs xc xq).k 3), .int .u8 (bt (Rc.mk xi xe xk xv xs xc xq).k 4), .int .u8 (bt (Rc.mk xi xe xk xv xs xc xq).k 5), .int .u8 (bt (Rc.mk xi xe xk xv xs xc xq).k 6), .int .u8 (bt (Rc.mk xi xe xk xv xs xc xq).k 7), .int .i64 (Rc.mk xi xe xk xv xs xc xq).v, .string (Rc.mk xi xe xk xv xs xc xq).s, .int .i64 (Rc.mk xi xe xk xv xs xc xq).c, .int .i64 (Rc.mk xi xe xk xv xs xc xq).q]
                    have hba : Below wr.heap.size wr ((wr.alloc (.cells #[.int .i64 0, .int .i64 0, .int .u8 0, .int .u8 0, .int .u8 0, .int .u8 0, .int .u8 0, .int .u8 0, .int .u8 0, .int .u8 0, .int .i64 0, .string ⟨#[]⟩, .int .i64 0, .int .i64 0] 64)).setRow wr.heap.size #[.int .i64 (Rc.mk xi xe xk xv xs xc xq).ix, .int .i64 (Rc.mk xi xe xk xv xs xc xq).ep, .int .u8 (bt (Rc.mk xi xe xk xv xs xc xq).k 0), .int .u8 (bt (Rc.mk xi xe xk xv xs xc xq).k 1), .int .u8 (bt (Rc.mk xi xe xk xv xs xc xq).k 2), .int .u8 (bt (Rc.mk xi xe xk xv xs xc xq).k 3), .int .u8 (bt (Rc.mk xi xe xk xv xs xc xq).k 4), .int .u8 (bt (Rc.mk xi xe xk xv xs xc xq).k 5), .int .u8 (bt (Rc.mk xi xe xk xv xs xc xq).k 6), .int .u8 (bt (Rc.mk xi xe xk xv xs xc xq).k 7), .int .i64 (Rc.mk xi xe xk xv xs xc xq).v, .string (Rc.mk xi xe xk xv xs xc xq).s, .int .i64 (Rc.mk xi xe xk xv xs xc xq).c, .int .i64 (Rc.mk xi xe xk xv xs xc xq).q]) := (below_alloc' wr (.cells #[.int .i64 0, .int .i64 0, .int .u8 0, .int .u8 0, .int .u8 0, .int .u8 0, .int .u8 0, .int .u8 0, .int .u8 0, .int .u8 0, .int .i64 0, .string ⟨#[]⟩, .int .i64 0, .int .i64 0] 64)).trans (below_setRow _ _ _ (Nat.le_refl _))
                    have hL1 := hL.below hba
                    have hxo : o wr.heap.size = 0 := Classical.byContradiction fun e => by have := (hL.mo.pos _ e).2; omega
                    dsimp only at hX hba hL1
                    have hW := knownX hL1.s1 xc xq
                    have hknw : ((⟨s.low, s.tail.take (cq + r + j), s.com⟩ : Sh)).knw xc xq = (0, false) := by
                      unfold Sh.knw
                      rw [if_pos hrq]
                      exact hnw
                    rw [hknw] at hW
                    obtain ⟨y0, y1, y2, y3, y4, y5, y6, y7, y8, y9, y10, y11, y12, y13⟩ := rec_box (x := Rc.mk xi xe xk xv xs xc xq) hX
                    dsimp only at y12 y13
                    clear hknw hnw hrq hrk hL y0 y1 y2 y3 y4 y5 y6 y7 y8 y9 y10 y11 hba
                    go_wp2_with (first | refine wpList_load_mid rfl 64 _ rfl bb (of + j * 14) rfl _ _ hrk2 Tryd.underlying64 rfl infoRc ?_ | refine wpList_store_row rfl 64 _ _ rfl wr.heap.size #[.int .i64 (Rc.mk xi xe xk xv xs xc xq).ix, .int .i64 (Rc.mk xi xe xk xv xs xc xq).ep, .int .u8 (bt (Rc.mk xi xe xk xv xs xc xq).k 0), .int .u8 (bt (Rc.mk xi xe xk xv xs xc xq).k 1), .int .u8 (bt (Rc.mk xi xe xk xv xs xc xq).k 2), .int .u8 (bt (Rc.mk xi xe xk xv xs xc xq).k 3), .int .u8 (bt (Rc.mk xi xe xk xv xs xc xq).k 4), .int .u8 (bt (Rc.mk xi xe xk xv xs xc xq).k 5), .int .u8 (bt (Rc.mk xi xe xk xv xs xc xq).k 6), .int .u8 (bt (Rc.mk xi xe xk xv xs xc xq).k 7), .int .i64 (Rc.mk xi xe xk xv xs xc xq).v, .string (Rc.mk xi xe xk xv xs xc xq).s, .int .i64 (Rc.mk xi xe xk xv xs xc xq).c, .int .i64 (Rc.mk xi xe xk xv xs xc xq).q] rfl rfl _ _ hX0 infoRc rfl (by simp [Value.oneCell']) ?_)
                    generalize ((wr.alloc (.cells #[.int .i64 0, .int .i64 0, .int .u8 0, .int .u8 0, .int .u8 0, .int .u8 0, .int .u8 0, .int .u8 0, .int .u8 0, .int .u8 0, .int .i64 0, .string ⟨#[]⟩, .int .i64 0, .int .i64 0] 64)).setRow wr.heap.size #[.int .i64 (Rc.mk xi xe xk xv xs xc xq).ix, .int .i64 (Rc.mk xi xe xk xv xs xc xq).ep, .int .u8 (bt (Rc.mk xi xe xk xv xs xc xq).k 0), .int .u8 (bt (Rc.mk xi xe xk xv xs xc xq).k 1), .int .u8 (bt (Rc.mk xi xe xk xv xs xc xq).k 2), .int .u8 (bt (Rc.mk xi xe xk xv xs xc xq).k 3), .int .u8 (bt (Rc.mk xi xe xk xv xs xc xq).k 4), .int .u8 (bt (Rc.mk xi xe xk xv xs xc xq).k 5), .int .u8 (bt (Rc.mk xi xe xk xv xs xc xq).k 6), .int .u8 (bt (Rc.mk xi xe xk xv xs xc xq).k 7), .int .i64 (Rc.mk xi xe xk xv xs xc xq).v, .string (Rc.mk xi xe xk xv xs xc xq).s, .int .i64 (Rc.mk xi xe xk xv xs xc xq).c, .int .i64 (Rc.mk xi xe xk xv xs xc xq).q]) = wx at *
                    refine hW.mono ?_
                    rintro e w14 ⟨rfl, hb⟩
                    clear hW y12 y13 hX0 hrk2
                    replace hL1 := hL1.below hb
                    replace hX := hX.below hb
                    clear hb
                    generalize wr.heap.size = gx at *
                    have hW := addX hL1.s1 (Rc.mk xi xe xk xv xs xc xq) hxk hxs (hT.up hL1.mo.bel)
                    rw [had.1, had.2, ← htn] at hW
                    clear had htn hst
                    go_wp2_with (refine wpList_load_rowG rfl 64 _ rfl gx rfl _ _ _ _ hX Tryd.underlying64 rfl infoRc ?_)
                    refine hW.mono ?_
                    rintro e w15 ⟨rfl, hst, hS⟩
                    clear hW
                    have hL2 := hL1.next (j' := j + 1) hst hS
                    clear hst hS hL1 hX
                    go_wp2_with fail
                    exact ⟨⟨j + 1, _, by omega, by go_num, hL2⟩, by simp [intOf]; omega⟩
                · as_aux_lemma =>
                    have hji : ¬ (j : Int) < (gl : Int) := by omega
                    obtain rfl : j = gl := by omega
                    obtain ⟨hM, hS, hC2, _, _⟩ := hL
                    rw [List.take_of_length_le (show s.tail.length ≤ cq + r + j by have := HGL.out; omega)] at hS
                    replace hS : SX o 1 wr g s := hS
                    have hkq := hkn.kn
                    clear HGL hkk hi hkn
                    have hW := lowX hS
                    go_wp2_with fail
                    refine hW.mono ?_
                    rintro e w14 ⟨rfl, hb⟩
                    clear hW
                    replace hM := hM.below hb
                    replace hS := hS.below hb
                    replace hC2 := hC2.below hb
                    clear hb
                    have hW := behX hS rfl
                    go_wp2_with fail
                    refine hW.mono ?_
                    rintro e w15 ⟨p3, c3, rfl, hr3, hb⟩
                    clear hW
                    replace hM := hM.below hb
                    replace hS := hS.below hb
                    replace hC2 := hC2.below hb
                    clear hb
                    have hW := lowX hC2
                    go_wp2_with fail
                    refine hW.mono ?_
                    rintro e w16 ⟨rfl, hb⟩
                    clear hW
                    replace hM := hM.below hb
                    replace hS := hS.below hb
                    replace hC2 := hC2.below hb
                    replace hr3 := hr3.below hb
                    clear hb
                    have hW := behX hC2 rfl
                    go_wp2_with fail
                    refine hW.mono ?_
                    rintro e w17 ⟨p4, c4, rfl, hr4, hb⟩
                    clear hW
                    replace hM := hM.below hb
                    replace hS := hS.below hb
                    replace hC2 := hC2.below hb
                    replace hr3 := hr3.below hb
                    clear hb
                    have hW := sameR_any hr3 hr4 (by omega)
                    go_wp2_with fail
                    refine hW.mono ?_
                    rintro e w18 ⟨rfl, hb⟩
                    clear hW hr3 hr4
                    replace hM := hM.below hb
                    replace hS := hS.below hb
                    replace hC2 := hC2.below hb
                    clear hb
                    have hW := wholeX hS hkq
                    go_wp2_with fail
                    refine hW.mono ?_
                    rintro e w19 ⟨v1, rfl, ht1, hb⟩
                    clear hW
                    replace hM := hM.below hb
                    replace hS := hS.below hb
                    replace hC2 := hC2.below hb
                    clear hb
                    have hW := wholeX hC2 hkq
                    go_wp2_with fail
                    refine hW.mono ?_
                    rintro e w20 ⟨v2, rfl, ht2, hb⟩
                    clear hW
                    replace hM := hM.below hb
                    replace hS := hS.below hb
                    replace hC2 := hC2.below hb
                    replace ht1 := ht1.below hb
                    clear hb
                    have hW := sameX ht1 ht2 (hkq.take _)
                    go_wp2_with fail
                    refine hW.mono ?_
                    rintro e w21 ⟨rfl, hb⟩
                    clear hW ht1 ht2
                    replace hM := hM.below hb
                    replace hS := hS.below hb
                    replace hC2 := hC2.below hb
                    clear hb
                    have hW := awake_any _ (hT.up hM.bel)
                    clear hS hC2
                    go_wp2_with fail
                    refine hW.mono ?_
                    rintro e w22 ⟨rfl, hb⟩
                    go_wp2_with fail
                    go_ret
                    exact ⟨rfl, hM.bel.trans (hb.mono hM.bel.size)⟩
          · as_aux_lemma =>
              have hz : (chkE ix ep C D != 0) = true := by simpa using hcz
              generalize chkE ix ep C D = ce at *
              clear hcz
              have hW := awake_any _ (hT.up HB)
              go_wp2_with fail
              refine hW.mono ?_
              rintro e w9 ⟨rfl, hb9⟩
              go_wp2_with fail
              go_ret
              exact ⟨rfl, HB.trans (hb9.mono HB.size)⟩

end Go.Proofs.YtnbgdkdnlfomeaaDoor.M
