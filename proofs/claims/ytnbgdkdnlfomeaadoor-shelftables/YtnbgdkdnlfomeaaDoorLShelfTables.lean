/-
  Own text: the walk of the law ShelfTables.
-/
import Derived.Test.YtnbgdkdnlfomeaaDoorBXt
namespace Go.Proofs.YtnbgdkdnlfomeaaDoor.M
open Go.ChangeShapes Go.WideShapes Go.ChangeAt Go.RowKit Go.ChangeMaps Go.MapKept Go.Maps Go.Shelf Go.Proofs
set_option linter.unusedSimpArgs false

/-- A table was told; two were. -/
def TB1 (w : World) (v : Value) (m : Sm) (W : World) : Prop := Bl w W ∧ TabR W v m
def TB2 (w : World) (v : Value) (m : Sm) (v2 : Value) (m2 : Sm) (W : World) : Prop := Bl w W ∧ TabR W v m ∧ TabR W v2 m2
theorem TB1.stays (w : World) (v : Value) (m : Sm) : Stays (TB1 w v m) := fun _ _ h hb => ⟨Bl.stays w _ _ h.1 hb, h.2.below hb⟩
theorem TB2.stays (w : World) (v : Value) (m : Sm) (v2 : Value) (m2 : Sm) : Stays (TB2 w v m v2 m2) := fun _ _ h hb => ⟨Bl.stays w _ _ h.1 hb, h.2.1.below hb, h.2.2.below hb⟩

/-- Ahead of round j: a shelf, and one made of its table with so many records behind it. -/
structure LI (w : World) (o : Nat → Nat) (W : World) (g g2 gk : Nat) (s : Sh) (m : Sm) (com : Int) (kk j : Nat) (q : Nat) (p : Option Addr) (n c : Nat) : Prop where
  mo : MO w o W
  s1 : SX o 1 W g s
  s2 : SX o 2 W g2 ⟨m, (s.tail.drop kk).take j, com⟩
  ow : OwG recS 64 W 0 p n c (s.tail.drop kk)
  o0 : ∀ k, mine p c k → o k = 0
  kb : At 28 W gk #[.int .u8 (bt (q) 0), .int .u8 (bt (q) 1), .int .u8 (bt (q) 2), .int .u8 (bt (q) 3), .int .u8 (bt (q) 4), .int .u8 (bt (q) 5), .int .u8 (bt (q) 6), .int .u8 (bt (q) 7)]
  k0 : o gk = 0

theorem LI.below {w : World} {o : Nat → Nat} {W W' : World} {g g2 gk : Nat} {s : Sh} {m : Sm} {com : Int} {kk j q : Nat} {p : Option Addr} {n c : Nat} (h : LI w o W g g2 gk s m com kk j q p n c) (hb : Below W.heap.size W W') : LI w o W' g g2 gk s m com kk j q p n c :=
  ⟨h.mo.below hb, h.s1.below hb, h.s2.below hb, h.ow.below hb, h.o0, h.kb.below hb, h.k0⟩

theorem LI.next {w : World} {o : Nat → Nat} {V W : World} {g g2 gk : Nat} {s : Sh} {m : Sm} {com : Int} {kk j j' q : Nat} {p : Option Addr} {n c : Nat} (h : LI w o V g g2 gk s m com kk j q p n c) (hc : Stp o 2 V W) (h1 : SX (mkO o V W 2) 2 W g2 ⟨m, (s.tail.drop kk).take j', com⟩) : LI w (mkO o V W 2) W g g2 gk s m com kk j' q p n c := by
  obtain ⟨h2, h3⟩ := h.ow.other h.o0 hc (by decide)
  exact ⟨h.mo.step (by decide) hc, h.s1.other hc (by decide), h1, h2, h3, h.kb.other hc h.k0 (by decide), by rw [mkO_old (At.lt h.kb)]; exact h.k0⟩

set_option maxRecDepth 20000 in
set_option maxHeartbeats 4000000 in
theorem walk_ShelfTables (w : World) (hT : Tabs w) (ix ep : Int) (cp : Option Addr) (cn cc : Nat) (C : List Ce) (dp : Option Addr) (dn dc : Nat) (D : List Dn) (hC : RdG celS w cp cn cc C) (hD : RdG donS w dp dn dc D) (hck : ∀ c ∈ C, Ce.fit c) (hcn : cn ≤ 9223372036854775807) (hdn : dn ≤ 9223372036854775807)
    (p : Option Addr) (n c : Nat) (ds : List Dv) (hr : RdG dooS w p n c ds) (hds : ∀ d ∈ ds, okD d) (hnn : n ≤ 9223372036854775807) (q : Nat) (hq : q < 18446744073709551616) :
    Calls Tryd.prog 6 #[.agg #[.int .i64 ix, .int .i64 ep, .slice cp cn cc, .slice dp dn dc], .slice p n c, .agg #[.int .u8 (bt (q) 0), .int .u8 (bt (q) 1), .int .u8 (bt (q) 2), .int .u8 (bt (q) 3), .int .u8 (bt (q) 4), .int .u8 (bt (q) 5), .int .u8 (bt (q) 6), .int .u8 (bt (q) 7)]] w fun e w' => e = .returned (.bool true) ∧ Below w.heap.size w w' := by
  have h0 := below_alloc' w (.cells #[.int .i64 ix, .int .i64 ep, .slice cp cn cc, .slice dp dn dc] 25)
  have hA0 := At.new 25 w #[.int .i64 ix, .int .i64 ep, .slice cp cn cc, .slice dp dn dc]
  have s1 : (w.alloc (.cells #[.int .i64 ix, .int .i64 ep, .slice cp cn cc, .slice dp dn dc] 25)).heap.size = w.heap.size + 1 := by simp
  generalize hW1 : (w.alloc (.cells #[.int .i64 ix, .int .i64 ep, .slice cp cn cc, .slice dp dn dc] 25)) = W1 at *
  have h1 := below_alloc' W1 (.cells #[.int .u8 (bt (q) 0), .int .u8 (bt (q) 1), .int .u8 (bt (q) 2), .int .u8 (bt (q) 3), .int .u8 (bt (q) 4), .int .u8 (bt (q) 5), .int .u8 (bt (q) 6), .int .u8 (bt (q) 7)] 28)
  have hK := At.new 28 W1 #[.int .u8 (bt (q) 0), .int .u8 (bt (q) 1), .int .u8 (bt (q) 2), .int .u8 (bt (q) 3), .int .u8 (bt (q) 4), .int .u8 (bt (q) 5), .int .u8 (bt (q) 6), .int .u8 (bt (q) 7)]
  rw [s1] at hK
  have hA := hA0.below h1
  generalize hW2 : W1.alloc (.cells #[.int .u8 (bt (q) 0), .int .u8 (bt (q) 1), .int .u8 (bt (q) 2), .int .u8 (bt (q) 3), .int .u8 (bt (q) 4), .int .u8 (bt (q) 5), .int .u8 (bt (q) 6), .int .u8 (bt (q) 7)] 28) = W2 at *
  have HB := h0.trans (h1.mono h0.size)
  clear h0 h1 hA0
  have hsm := small_any ix ep cp cn cc C dp dn dc W2 (hC.below HB) hcn hdn
  go_enter Tryd.func6, Tryd.ntmps6
  go_wp2_with (refine wpList_load_row rfl 25 _ rfl w.heap.size rfl _ _ _ _ hA Tryd.underlying25 rfl infoTb ?_)
  refine hsm.mono ?_
  rintro e w3 ⟨⟨bb, rfl, hbb⟩, hb⟩
  clear hsm hW2
  replace HB := HB.trans (hb.mono HB.size)
  replace hA := hA.below hb
  replace hK := hK.below hb
  clear hb
  cases bb with
  | false =>
    as_aux_lemma =>
      have hW := awake_any _ (hT.up HB)
      go_wp2_with fail
      refine hW.mono ?_
      rintro e w9 ⟨rfl, hb9⟩
      go_wp2_with fail
      go_ret
      exact ⟨rfl, HB.trans (hb9.mono HB.size)⟩
  | true =>
    as_aux_lemma =>
      obtain ⟨hcn1, hdn1⟩ := hbb rfl
      clear hbb
      have hsh := shortL_any (hr.below HB) hnn
      go_wp2_with fail
      refine hsh.mono ?_
      rintro e w4 ⟨⟨bb, rfl, hbb⟩, hb⟩
      clear hsh
      replace HB := HB.trans (hb.mono HB.size)
      replace hA := hA.below hb
      replace hK := hK.below hb
      clear hb
      cases bb with
      | false =>
        have hW := awake_any _ (hT.up HB)
        go_wp2_with fail
        refine hW.mono ?_
        rintro e w9 ⟨rfl, hb9⟩
        go_wp2_with fail
        go_ret
        exact ⟨rfl, HB.trans (hb9.mono HB.size)⟩
      | true =>
        as_aux_lemma =>
          have hn1 := hbb rfl
          clear hbb
          have hch := check_any ix ep cp cn cc dp dn dc C D w4 (hC.below HB) (hD.below HB) (by omega) hck (hT.up HB)
          have hcz : (chkE ix ep C D = 0) ∨ ¬ (chkE ix ep C D = 0) := Classical.em _
          go_wp2_with (refine wpList_load_rowG rfl 25 _ rfl w.heap.size rfl _ _ _ _ hA Tryd.underlying25 rfl infoTb ?_)
          refine hch.mono ?_
          rintro e w5 ⟨rfl, hb⟩
          clear hch
          replace HB := HB.trans (hb.mono HB.size)
          replace hA := hA.below hb
          replace hK := hK.below hb
          clear hb
          rcases hcz with hcz | hcz
          · as_aux_lemma =>
              have hmd := madeX (fun _ => 0) 1 ix ep cp cn cc dp dn dc C D w5 (hC.below HB) (hD.below HB) (by omega) hck (hT.up HB) (by omega) hcz p n c ds (hr.below HB) hds hnn
              have hkn := (frS_g2 hcz fun c hc => (hck c hc).1).runs hds
              have hkl5 : w.heap.size + 1 < w5.heap.size := At.lt hK
              rw [hcz]
              generalize (frS ix ep C D).runs ds = s at *
              go_wp2_with (refine wpList_load_row rfl 25 _ rfl w.heap.size rfl _ _ _ _ hA Tryd.underlying25 rfl infoTb ?_)
              refine hmd.mono ?_
              rintro e w6 ⟨g, rfl, hb, hst, hS⟩
              clear hmd hcz
              have hM := (MO.none w w5 HB).step (i := 1) (by decide) hst
              replace HB := HB.trans (hb.mono HB.size)
              replace hA := hA.below hb
              replace hK := hK.below hb
              clear hb hst
              have hkz : mkO (fun _ => 0) w5 w6 1 (w.heap.size + 1) = 0 := by rw [mkO_old hkl5]
              clear hkl5
              generalize (mkO (fun _ => 0) w5 w6 1) = o1 at *
              clear hA hC hD hck hcn hdn hcn1 hdn1 hn1 hr hds hnn HB
              have hi := hS.inv
              have hfew := hi.few
              obtain ⟨cq, hcq⟩ : ∃ cq : Nat, s.com = s.low.ix + cq := ⟨(s.com - s.low.ix).toNat, by have := hi.lo; omega⟩
              have hcl : cq ≤ s.tail.length := by have := hi.hi; omega
              have hcqq : Hid (s.com = s.low.ix + cq) := hcq
              have hwe : s.tail.take (s.com - s.low.ix).toNat = s.tail.take cq := by rw [hcq, show (s.low.ix + (cq : Int) - s.low.ix).toNat = cq by omega]
              have htb : (s.low.adds (s.tail.take cq)).tb := hkn.front cq
              have hmx : (s.low.adds (s.tail.take cq)).ix = s.com := by rw [adds_ix hi hcl, hcq]
              have hW := wholeX hS hkn.gd.kn
              rw [hwe] at hW
              clear hcq
              go_wp2_with fail
              refine hW.mono ?_
              rintro e w7 ⟨v1, rfl, ht1, hb⟩
              clear hW
              replace hM := hM.below hb
              replace hS := hS.below hb
              replace hK := hK.below hb
              clear hb
              have hW := fromX o1 (j := 2) ht1 htb (hT.up hM.bel)
              have hEv := htb.again
              rw [hmx] at hW hEv
              have hmx' : (smOf s.com (s.low.adds (s.tail.take cq)).ep (sortC (s.low.adds (s.tail.take cq)).cs) (donL (s.low.adds (s.tail.take cq)) 4)).ix = s.com := hEv.ix.trans hmx
              have HEv : Hid (Eqv (smOf s.com (s.low.adds (s.tail.take cq)).ep (sortC (s.low.adds (s.tail.take cq)).cs) (donL (s.low.adds (s.tail.take cq)) 4)) (s.low.adds (s.tail.take cq))) := hEv
              clear hEv
              generalize smOf s.com (s.low.adds (s.tail.take cq)).ep (sortC (s.low.adds (s.tail.take cq)).cs) (donL (s.low.adds (s.tail.take cq)) 4) = m at *
              have HMX : Hid (m.ix = s.com) := hmx'
              have HMY : Hid ((s.low.adds (s.tail.take cq)).ix = s.com) := hmx
              clear hmx hmx'
              have hkl : w.heap.size + 1 < w7.heap.size := At.lt hK
              go_wp2_with fail
              refine hW.mono ?_
              rintro e w8 ⟨g2, rfl, hb, hst, hC2⟩
              clear hW ht1
              replace hS := hS.other hst (by decide)
              replace hK := hK.below hb
              replace hM := hM.step (i := 2) (by decide) hst
              have hkz2 : mkO o1 w7 w8 2 (w.heap.size + 1) = 0 := by rw [mkO_old hkl]; exact hkz
              clear hst hb hkz hkl
              generalize (mkO o1 w7 w8 2) = o2 at *
              have hW := tabX hS hkn.gd.kn
              go_wp2_with fail
              refine hW.mono ?_
              rintro e w9 ⟨v2, rfl, ht2, hb⟩
              clear hW
              replace hM := hM.below hb
              replace hS := hS.below hb
              replace hK := hK.below hb
              replace hC2 := hC2.below hb
              clear hb
              have hW := checkX ht2 hkn.tb (hT.up hM.bel)
              go_wp2_with fail
              refine hW.mono ?_
              rintro e w10 ⟨rfl, hb⟩
              clear hW ht2
              replace hM := hM.below hb
              replace hS := hS.below hb
              replace hK := hK.below hb
              replace hC2 := hC2.below hb
              clear hb
              have hW := commitX hS
              go_wp2_with fail
              refine hW.mono ?_
              rintro e w11 ⟨rfl, hb⟩
              clear hW
              replace hM := hM.below hb
              replace hS := hS.below hb
              replace hK := hK.below hb
              replace hC2 := hC2.below hb
              clear hb
              have hW := behY hS hcl (x := s.com) hcqq.out
              go_wp2_with fail
              refine hW.mono ?_
              rintro e w12 ⟨p1, c1, rfl, hG, hb⟩
              clear hW
              have hG0 : ∀ k, mine p1 c1 k → o2 k = 0 := fun k hk => Classical.byContradiction fun e => by have := (hM.pos _ e).2; have := (hG.lt hk).1; omega
              replace hM := hM.below hb
              replace hS := hS.below hb
              replace hK := hK.below hb
              replace hC2 := hC2.below hb
              clear hb
              have hLI : LI w o2 w12 g g2 (w.heap.size + 1) s m s.com cq 0 q p1 (s.tail.length - cq) c1 := ⟨hM, hS, hC2, hG.lower (Nat.zero_le _), hG0, hK, hkz2⟩
              clear hM hS hC2 hG hG0 hK hkz2
              go_wp2_with fail
              have HGL : Hid (s.tail.length - cq + cq = s.tail.length) := Nat.sub_add_cancel hcl
              have hgl24 : s.tail.length - cq ≤ 24 := by omega
              generalize s.tail.length - cq = gl at *
              generalize w.heap.size + 1 = gk at *
              go_loopw [59] (fun i wr => ∃ (j : Nat) (o : Nat → Nat), j ≤ gl ∧ i = .int .i64 j ∧ LI w o wr g g2 gk s m s.com cq j q p1 gl c1) (fun i _ => gl - (intOf i).toNat)
              case atStart => exact ⟨0, o2, Nat.zero_le _, rfl, hLI⟩
              case round =>
                clear hLI
                obtain ⟨j, o, hj, rfl, hL⟩ := hrel
                by_cases hjn : j < gl
                · as_aux_lemma =>
                    have hji : (j : Int) < (gl : Int) := by omega
                    obtain ⟨bb, of, rfl, _⟩ := hL.ow.rd.at (by omega)
                    have hrk := hL.ow.rd.rangeB (Below.refl _ _) hjn
                    have hjl : cq + j < s.tail.length := by have := HGL.out; omega
                    have hgd : (s.tail.drop cq).getD j .z0 = s.tail.getD (cq + j) .z0 := by rw [List.getD_eq_getElem?_getD, List.getD_eq_getElem?_getD, List.getElem?_drop]
                    rw [show (s.tail.drop cq).getD j recS.z = s.tail.getD (cq + j) .z0 from hgd] at hrk
                    have hst := okT_at hkn.gd.ok hjl
                    have htn := take_next (l := s.tail.drop cq) (j := j) (by rw [List.length_drop]; omega)
                    rw [hgd] at htn
                    have hxm : s.tail.getD (cq + j) .z0 ∈ s.tail := by rw [List.getD_eq_getElem?_getD, List.getElem?_eq_getElem hjl]; exact List.getElem_mem hjl
                    have hxk := (hi.ok _ hxm).1
                    have hxs := right_size (stands_ok hst).2.2.2.2.1
                    rw [List.take_add, adds_app, ← (HEv.out.adds).stands] at hst
                    have had := addE_of (s := (⟨m, (s.tail.drop cq).take j, s.com⟩ : Sh)) hst (by show ((s.tail.drop cq).take j).length < 24; rw [List.length_take, List.length_drop]; omega)
                    clear hxm hgd
                    generalize s.tail.getD (cq + j) .z0 = x at *
                    obtain ⟨xi, xe, xk, xv, xs, xc, xq⟩ := x
                    dsimp only at hrk hxk hxs
                    have hrk2 : wr.rangeAt bb (of + j * 14) [.int .i64 (Rc.mk xi xe xk xv xs xc xq).ix, .int .i64 (Rc.mk xi xe xk xv xs xc xq).ep, .int .u8 (bt (Rc.mk xi xe xk xv xs xc xq).k 0), .int .u8 (bt (Rc.mk xi xe xk xv xs xc xq).k 1), .int .u8 (bt (Rc.mk xi xe xk xv xs xc xq).k 2), .int .u8 (bt (Rc.mk xi xe xk xv xs xc xq).k 3), .int .u8 (bt (Rc.mk xi xe xk xv xs xc xq).k 4), .int .u8 (bt (Rc.mk xi xe xk xv xs xc xq).k 5), .int .u8 (bt (Rc.mk xi xe xk xv xs xc xq).k 6), .int .u8 (bt (Rc.mk xi xe xk xv xs xc xq).k 7), .int .i64 (Rc.mk xi xe xk xv xs xc xq).v, .string (Rc.mk xi xe xk xv xs xc xq).s, .int .i64 (Rc.mk xi xe xk xv xs xc xq).c, .int .i64 (Rc.mk xi xe xk xv xs xc xq).q] := hrk
                    have hX0 := At.new 64 wr #[.int .i64 0, .int .i64 0, .int .u8 0, .int .u8 0, .int .u8 0, .int .u8 0, .int .u8 0, .int .u8 0, .int .u8 0, .int .u8 0, .int .i64 0, .string ⟨#[]⟩, .int .i64 0, .int .i64 0]
                    have hX := hX0.row #[.int .i64 (Rc.mk xi xe xk xv xs xc xq).ix, .int .i64 (Rc.mk xi xe xk xv xs xc xq).ep, .int .u8 (bt (Rc.mk xi xe xk xv xs xc xq).k 0), .int .u8 (bt (Rc.mk xi xe xk xv xs xc xq).k 1), .int .u8 (bt (Rc.mk xi xe xk xv xs xc xq).k 2), .int .u8 (bt (Rc.mk xi xe xk xv xs xc xq).k 3), .int .u8 (bt (Rc.mk xi xe xk xv xs xc xq).k 4), .int .u8 (bt (Rc.mk xi xe xk xv xs xc xq).k 5), .int .u8 (bt (Rc.mk xi xe xk xv xs xc xq).k 6), .int .u8 (bt (Rc.mk xi xe xk xv xs xc xq).k 7), .int .i64 (Rc.mk xi xe xk xv xs xc xq).v, .string (Rc.mk xi xe xk xv xs xc xq).s, .int .i64 (Rc.mk xi xe xk xv xs xc xq).c, .int .i64 (Rc.mk xi xe xk xv xs xc xq).q]
                    have hba : Below wr.heap.size wr ((wr.alloc (.cells #[.int .i64 0, .int .i64 0, .int .u8 0, .int .u8 0, .int .u8 0, .int .u8 0, .int .u8 0, .int .u8 0, .int .u8 0, .int .u8 0, .int .i64 0, .string ⟨#[]⟩, .int .i64 0, .int .i64 0] 64)).setRow wr.heap.size #[.int .i64 (Rc.mk xi xe xk xv xs xc xq).ix, .int .i64 (Rc.mk xi xe xk xv xs xc xq).ep, .int .u8 (bt (Rc.mk xi xe xk xv xs xc xq).k 0), .int .u8 (bt (Rc.mk xi xe xk xv xs xc xq).k 1), .int .u8 (bt (Rc.mk xi xe xk xv xs xc xq).k 2), .int .u8 (bt (Rc.mk xi xe xk xv xs xc xq).k 3), .int .u8 (bt (Rc.mk xi xe xk xv xs xc xq).k 4), .int .u8 (bt (Rc.mk xi xe xk xv xs xc xq).k 5), .int .u8 (bt (Rc.mk xi xe xk xv xs xc xq).k 6), .int .u8 (bt (Rc.mk xi xe xk xv xs xc xq).k 7), .int .i64 (Rc.mk xi xe xk xv xs xc xq).v, .string (Rc.mk xi xe xk xv xs xc xq).s, .int .i64 (Rc.mk xi xe xk xv xs xc xq).c, .int .i64 (Rc.mk xi xe xk xv xs xc xq).q]) := (below_alloc' wr (.cells #[.int .i64 0, .int .i64 0, .int .u8 0, .int .u8 0, .int .u8 0, .int .u8 0, .int .u8 0, .int .u8 0, .int .u8 0, .int .u8 0, .int .i64 0, .string ⟨#[]⟩, .int .i64 0, .int .i64 0] 64)).trans (below_setRow _ _ _ (Nat.le_refl _))
                    have hL1 := hL.below hba
                    dsimp only at hX hba hL1
                    have hW := addX hL1.s2 (Rc.mk xi xe xk xv xs xc xq) hxk hxs (hT.up hL1.mo.bel)
                    rw [had.1, had.2, ← htn] at hW
                    clear hrk hL hba had htn hst
                    go_wp2_with (first | refine wpList_load_mid rfl 64 _ rfl bb (of + j * 14) rfl _ _ hrk2 Tryd.underlying64 rfl infoRc ?_ | refine wpList_store_row rfl 64 _ _ rfl wr.heap.size #[.int .i64 (Rc.mk xi xe xk xv xs xc xq).ix, .int .i64 (Rc.mk xi xe xk xv xs xc xq).ep, .int .u8 (bt (Rc.mk xi xe xk xv xs xc xq).k 0), .int .u8 (bt (Rc.mk xi xe xk xv xs xc xq).k 1), .int .u8 (bt (Rc.mk xi xe xk xv xs xc xq).k 2), .int .u8 (bt (Rc.mk xi xe xk xv xs xc xq).k 3), .int .u8 (bt (Rc.mk xi xe xk xv xs xc xq).k 4), .int .u8 (bt (Rc.mk xi xe xk xv xs xc xq).k 5), .int .u8 (bt (Rc.mk xi xe xk xv xs xc xq).k 6), .int .u8 (bt (Rc.mk xi xe xk xv xs xc xq).k 7), .int .i64 (Rc.mk xi xe xk xv xs xc xq).v, .string (Rc.mk xi xe xk xv xs xc xq).s, .int .i64 (Rc.mk xi xe xk xv xs xc xq).c, .int .i64 (Rc.mk xi xe xk xv xs xc xq).q] rfl rfl _ _ hX0 infoRc rfl (by simp [Value.oneCell']) ?_ | refine wpList_load_row rfl 64 _ rfl wr.heap.size rfl _ _ _ _ hX Tryd.underlying64 rfl infoRc ?_)
                    refine hW.mono ?_
                    rintro e w15 ⟨rfl, hst, hS⟩
                    clear hW hX0 hrk2 hX
                    have hL2 := hL1.next (j' := j + 1) hst hS
                    clear hst hS hL1
                    go_wp2_with fail
                    exact ⟨⟨j + 1, _, by omega, by go_num, hL2⟩, by simp [intOf]; omega⟩
                · as_aux_lemma =>
                    have hji : ¬ (j : Int) < (gl : Int) := by omega
                    obtain rfl : j = gl := by omega
                    obtain ⟨hM, hS, hC2, _, _, hK, _⟩ := hL
                    rw [List.take_of_length_le (show (s.tail.drop cq).length ≤ j by have := HGL.out; rw [List.length_drop]; omega)] at hC2
                    have htp : s.low.adds s.tail = (s.low.adds (s.tail.take cq)).adds (s.tail.drop cq) := by rw [← adds_app, List.take_append_drop]
                    have hEa : Eqv (m.adds (s.tail.drop cq)) (s.low.adds s.tail) := by rw [htp]; exact HEv.out.adds
                    have hl2 : (⟨m, s.tail.drop cq, s.com⟩ : Sh).last = s.last := by
                      show m.ix + ((s.tail.drop cq).length : Nat) = s.low.ix + (s.tail.length : Nat)
                      rw [HMX.out, List.length_drop, hcqq.out]
                      have := HGL.out
                      omega
                    have he2 : (endS m (s.tail.drop cq)).2 = (endS s.low s.tail).2 := by rw [← (adds_end _ _).2, ← (adds_end _ _).2]; exact hEa.ep
                    have hW := lastX hS
                    go_wp2_with fail
                    refine hW.mono ?_
                    rintro e w16 ⟨rfl, hb⟩
                    clear hW
                    replace hM := hM.below hb
                    replace hS := hS.below hb
                    replace hK := hK.below hb
                    replace hC2 := hC2.below hb
                    clear hb
                    have hW := lastX hC2
                    rw [hl2, show (endS (⟨m, s.tail.drop cq, s.com⟩ : Sh).low (⟨m, s.tail.drop cq, s.com⟩ : Sh).tail).2 = (endS s.low s.tail).2 from he2] at hW
                    go_wp2_with fail
                    refine hW.mono ?_
                    rintro e w17 ⟨rfl, hb⟩
                    clear hW
                    replace hM := hM.below hb
                    replace hS := hS.below hb
                    replace hK := hK.below hb
                    replace hC2 := hC2.below hb
                    clear hb
                    have hD2 := fun W (h : Bl w17 W) => dirtyX (hC2.below h)
                    rw [show (⟨m, s.tail.drop cq, s.com⟩ : Sh).last - (⟨m, s.tail.drop cq, s.com⟩ : Sh).com = s.last - s.com from by rw [hl2]] at hD2
                    have hc1 := fun W (h : Bl w17 W) => cleanX (hS.below h) q hq
                    have hc2 := fun W (h : Bl w17 W) => cleanX (hC2.below h) q hq
                    rw [show lookC ((⟨m, s.tail.drop cq, s.com⟩ : Sh).low.adds ((⟨m, s.tail.drop cq, s.com⟩ : Sh).tail.take ((⟨m, s.tail.drop cq, s.com⟩ : Sh).com - (⟨m, s.tail.drop cq, s.com⟩ : Sh).low.ix).toNat)).cs q = lookC (s.low.adds (s.tail.take (s.com - s.low.ix).toNat)).cs q from by
                      show lookC (m.adds ((s.tail.drop cq).take (s.com - m.ix).toNat)).cs q = _
                      rw [HMX.out, show (s.com - s.com).toNat = 0 by omega, hwe]
                      exact HEv.out.lk q] at hc2
                    have ht1 := fun W (h : Bl w17 W) => topX (hS.below h) q hq
                    have ht2 := fun W (h : Bl w17 W) => topX (hC2.below h) q hq
                    rw [show lookC ((⟨m, s.tail.drop cq, s.com⟩ : Sh).low.adds (⟨m, s.tail.drop cq, s.com⟩ : Sh).tail).cs q = lookC (s.low.adds s.tail).cs q from hEa.lk q] at ht2
                    have hec : ∀ W, (binOp .eql 53 (.agg #[.int .u8 (bt ((lookC (s.low.adds (s.tail.take (s.com - s.low.ix).toNat)).cs q).getD .z0).k 0), .int .u8 (bt ((lookC (s.low.adds (s.tail.take (s.com - s.low.ix).toNat)).cs q).getD .z0).k 1), .int .u8 (bt ((lookC (s.low.adds (s.tail.take (s.com - s.low.ix).toNat)).cs q).getD .z0).k 2), .int .u8 (bt ((lookC (s.low.adds (s.tail.take (s.com - s.low.ix).toNat)).cs q).getD .z0).k 3), .int .u8 (bt ((lookC (s.low.adds (s.tail.take (s.com - s.low.ix).toNat)).cs q).getD .z0).k 4), .int .u8 (bt ((lookC (s.low.adds (s.tail.take (s.com - s.low.ix).toNat)).cs q).getD .z0).k 5), .int .u8 (bt ((lookC (s.low.adds (s.tail.take (s.com - s.low.ix).toNat)).cs q).getD .z0).k 6), .int .u8 (bt ((lookC (s.low.adds (s.tail.take (s.com - s.low.ix).toNat)).cs q).getD .z0).k 7), .int .i64 ((lookC (s.low.adds (s.tail.take (s.com - s.low.ix).toNat)).cs q).getD .z0).v, .string ((lookC (s.low.adds (s.tail.take (s.com - s.low.ix).toNat)).cs q).getD .z0).s]) (.agg #[.int .u8 (bt ((lookC (s.low.adds (s.tail.take (s.com - s.low.ix).toNat)).cs q).getD .z0).k 0), .int .u8 (bt ((lookC (s.low.adds (s.tail.take (s.com - s.low.ix).toNat)).cs q).getD .z0).k 1), .int .u8 (bt ((lookC (s.low.adds (s.tail.take (s.com - s.low.ix).toNat)).cs q).getD .z0).k 2), .int .u8 (bt ((lookC (s.low.adds (s.tail.take (s.com - s.low.ix).toNat)).cs q).getD .z0).k 3), .int .u8 (bt ((lookC (s.low.adds (s.tail.take (s.com - s.low.ix).toNat)).cs q).getD .z0).k 4), .int .u8 (bt ((lookC (s.low.adds (s.tail.take (s.com - s.low.ix).toNat)).cs q).getD .z0).k 5), .int .u8 (bt ((lookC (s.low.adds (s.tail.take (s.com - s.low.ix).toNat)).cs q).getD .z0).k 6), .int .u8 (bt ((lookC (s.low.adds (s.tail.take (s.com - s.low.ix).toNat)).cs q).getD .z0).k 7), .int .i64 ((lookC (s.low.adds (s.tail.take (s.com - s.low.ix).toNat)).cs q).getD .z0).v, .string ((lookC (s.low.adds (s.tail.take (s.com - s.low.ix).toNat)).cs q).getD .z0).s])).run Tryd.prog W = .ok (.bool true) W := fun W => by
                      have h := eql_cel ((lookC (s.low.adds (s.tail.take (s.com - s.low.ix).toNat)).cs q).getD .z0) ((lookC (s.low.adds (s.tail.take (s.com - s.low.ix).toNat)).cs q).getD .z0) W
                      rw [eqCe_self] at h
                      exact h
                    have hgc : ∀ W, (eqGuard .eql 53 (.tmp 96) (.tmp 99) (.agg #[.int .u8 (bt ((lookC (s.low.adds (s.tail.take (s.com - s.low.ix).toNat)).cs q).getD .z0).k 0), .int .u8 (bt ((lookC (s.low.adds (s.tail.take (s.com - s.low.ix).toNat)).cs q).getD .z0).k 1), .int .u8 (bt ((lookC (s.low.adds (s.tail.take (s.com - s.low.ix).toNat)).cs q).getD .z0).k 2), .int .u8 (bt ((lookC (s.low.adds (s.tail.take (s.com - s.low.ix).toNat)).cs q).getD .z0).k 3), .int .u8 (bt ((lookC (s.low.adds (s.tail.take (s.com - s.low.ix).toNat)).cs q).getD .z0).k 4), .int .u8 (bt ((lookC (s.low.adds (s.tail.take (s.com - s.low.ix).toNat)).cs q).getD .z0).k 5), .int .u8 (bt ((lookC (s.low.adds (s.tail.take (s.com - s.low.ix).toNat)).cs q).getD .z0).k 6), .int .u8 (bt ((lookC (s.low.adds (s.tail.take (s.com - s.low.ix).toNat)).cs q).getD .z0).k 7), .int .i64 ((lookC (s.low.adds (s.tail.take (s.com - s.low.ix).toNat)).cs q).getD .z0).v, .string ((lookC (s.low.adds (s.tail.take (s.com - s.low.ix).toNat)).cs q).getD .z0).s]) (.agg #[.int .u8 (bt ((lookC (s.low.adds (s.tail.take (s.com - s.low.ix).toNat)).cs q).getD .z0).k 0), .int .u8 (bt ((lookC (s.low.adds (s.tail.take (s.com - s.low.ix).toNat)).cs q).getD .z0).k 1), .int .u8 (bt ((lookC (s.low.adds (s.tail.take (s.com - s.low.ix).toNat)).cs q).getD .z0).k 2), .int .u8 (bt ((lookC (s.low.adds (s.tail.take (s.com - s.low.ix).toNat)).cs q).getD .z0).k 3), .int .u8 (bt ((lookC (s.low.adds (s.tail.take (s.com - s.low.ix).toNat)).cs q).getD .z0).k 4), .int .u8 (bt ((lookC (s.low.adds (s.tail.take (s.com - s.low.ix).toNat)).cs q).getD .z0).k 5), .int .u8 (bt ((lookC (s.low.adds (s.tail.take (s.com - s.low.ix).toNat)).cs q).getD .z0).k 6), .int .u8 (bt ((lookC (s.low.adds (s.tail.take (s.com - s.low.ix).toNat)).cs q).getD .z0).k 7), .int .i64 ((lookC (s.low.adds (s.tail.take (s.com - s.low.ix).toNat)).cs q).getD .z0).v, .string ((lookC (s.low.adds (s.tail.take (s.com - s.low.ix).toNat)).cs q).getD .z0).s])).run Tryd.prog W = .ok () W := fun W => by go_simp
                    have het : ∀ W, (binOp .eql 53 (.agg #[.int .u8 (bt ((lookC (s.low.adds s.tail).cs q).getD .z0).k 0), .int .u8 (bt ((lookC (s.low.adds s.tail).cs q).getD .z0).k 1), .int .u8 (bt ((lookC (s.low.adds s.tail).cs q).getD .z0).k 2), .int .u8 (bt ((lookC (s.low.adds s.tail).cs q).getD .z0).k 3), .int .u8 (bt ((lookC (s.low.adds s.tail).cs q).getD .z0).k 4), .int .u8 (bt ((lookC (s.low.adds s.tail).cs q).getD .z0).k 5), .int .u8 (bt ((lookC (s.low.adds s.tail).cs q).getD .z0).k 6), .int .u8 (bt ((lookC (s.low.adds s.tail).cs q).getD .z0).k 7), .int .i64 ((lookC (s.low.adds s.tail).cs q).getD .z0).v, .string ((lookC (s.low.adds s.tail).cs q).getD .z0).s]) (.agg #[.int .u8 (bt ((lookC (s.low.adds s.tail).cs q).getD .z0).k 0), .int .u8 (bt ((lookC (s.low.adds s.tail).cs q).getD .z0).k 1), .int .u8 (bt ((lookC (s.low.adds s.tail).cs q).getD .z0).k 2), .int .u8 (bt ((lookC (s.low.adds s.tail).cs q).getD .z0).k 3), .int .u8 (bt ((lookC (s.low.adds s.tail).cs q).getD .z0).k 4), .int .u8 (bt ((lookC (s.low.adds s.tail).cs q).getD .z0).k 5), .int .u8 (bt ((lookC (s.low.adds s.tail).cs q).getD .z0).k 6), .int .u8 (bt ((lookC (s.low.adds s.tail).cs q).getD .z0).k 7), .int .i64 ((lookC (s.low.adds s.tail).cs q).getD .z0).v, .string ((lookC (s.low.adds s.tail).cs q).getD .z0).s])).run Tryd.prog W = .ok (.bool true) W := fun W => by
                      have h := eql_cel ((lookC (s.low.adds s.tail).cs q).getD .z0) ((lookC (s.low.adds s.tail).cs q).getD .z0) W
                      rw [eqCe_self] at h
                      exact h
                    have hgt : ∀ W, (eqGuard .eql 53 (.tmp 105) (.tmp 108) (.agg #[.int .u8 (bt ((lookC (s.low.adds s.tail).cs q).getD .z0).k 0), .int .u8 (bt ((lookC (s.low.adds s.tail).cs q).getD .z0).k 1), .int .u8 (bt ((lookC (s.low.adds s.tail).cs q).getD .z0).k 2), .int .u8 (bt ((lookC (s.low.adds s.tail).cs q).getD .z0).k 3), .int .u8 (bt ((lookC (s.low.adds s.tail).cs q).getD .z0).k 4), .int .u8 (bt ((lookC (s.low.adds s.tail).cs q).getD .z0).k 5), .int .u8 (bt ((lookC (s.low.adds s.tail).cs q).getD .z0).k 6), .int .u8 (bt ((lookC (s.low.adds s.tail).cs q).getD .z0).k 7), .int .i64 ((lookC (s.low.adds s.tail).cs q).getD .z0).v, .string ((lookC (s.low.adds s.tail).cs q).getD .z0).s]) (.agg #[.int .u8 (bt ((lookC (s.low.adds s.tail).cs q).getD .z0).k 0), .int .u8 (bt ((lookC (s.low.adds s.tail).cs q).getD .z0).k 1), .int .u8 (bt ((lookC (s.low.adds s.tail).cs q).getD .z0).k 2), .int .u8 (bt ((lookC (s.low.adds s.tail).cs q).getD .z0).k 3), .int .u8 (bt ((lookC (s.low.adds s.tail).cs q).getD .z0).k 4), .int .u8 (bt ((lookC (s.low.adds s.tail).cs q).getD .z0).k 5), .int .u8 (bt ((lookC (s.low.adds s.tail).cs q).getD .z0).k 6), .int .u8 (bt ((lookC (s.low.adds s.tail).cs q).getD .z0).k 7), .int .i64 ((lookC (s.low.adds s.tail).cs q).getD .z0).v, .string ((lookC (s.low.adds s.tail).cs q).getD .z0).s])).run Tryd.prog W = .ok () W := fun W => by go_simp
                    generalize Value.agg #[.int .u8 (bt ((lookC (s.low.adds (s.tail.take (s.com - s.low.ix).toNat)).cs q).getD .z0).k 0), .int .u8 (bt ((lookC (s.low.adds (s.tail.take (s.com - s.low.ix).toNat)).cs q).getD .z0).k 1), .int .u8 (bt ((lookC (s.low.adds (s.tail.take (s.com - s.low.ix).toNat)).cs q).getD .z0).k 2), .int .u8 (bt ((lookC (s.low.adds (s.tail.take (s.com - s.low.ix).toNat)).cs q).getD .z0).k 3), .int .u8 (bt ((lookC (s.low.adds (s.tail.take (s.com - s.low.ix).toNat)).cs q).getD .z0).k 4), .int .u8 (bt ((lookC (s.low.adds (s.tail.take (s.com - s.low.ix).toNat)).cs q).getD .z0).k 5), .int .u8 (bt ((lookC (s.low.adds (s.tail.take (s.com - s.low.ix).toNat)).cs q).getD .z0).k 6), .int .u8 (bt ((lookC (s.low.adds (s.tail.take (s.com - s.low.ix).toNat)).cs q).getD .z0).k 7), .int .i64 ((lookC (s.low.adds (s.tail.take (s.com - s.low.ix).toNat)).cs q).getD .z0).v, .string ((lookC (s.low.adds (s.tail.take (s.com - s.low.ix).toNat)).cs q).getD .z0).s] = tvc at hc1 hc2 hec hgc
                    generalize Value.agg #[.int .u8 (bt ((lookC (s.low.adds s.tail).cs q).getD .z0).k 0), .int .u8 (bt ((lookC (s.low.adds s.tail).cs q).getD .z0).k 1), .int .u8 (bt ((lookC (s.low.adds s.tail).cs q).getD .z0).k 2), .int .u8 (bt ((lookC (s.low.adds s.tail).cs q).getD .z0).k 3), .int .u8 (bt ((lookC (s.low.adds s.tail).cs q).getD .z0).k 4), .int .u8 (bt ((lookC (s.low.adds s.tail).cs q).getD .z0).k 5), .int .u8 (bt ((lookC (s.low.adds s.tail).cs q).getD .z0).k 6), .int .u8 (bt ((lookC (s.low.adds s.tail).cs q).getD .z0).k 7), .int .i64 ((lookC (s.low.adds s.tail).cs q).getD .z0).v, .string ((lookC (s.low.adds s.tail).cs q).getD .z0).s] = tvt at ht1 ht2 het hgt
                    clear htp hEa hl2 he2 hwe hcqq HGL HEv HMX HMY htb hkn hi
                    have hTV := hT.up hM.bel
                    go_wp2_with fail
                    have hS0 : Bl w17 w17.drew := (Below.refl _ _).drew
                    refine wp_region_det [0, 1, 2, 3, 4, 5, 6, 7, 8, 9, 10, 11, 12, 13, 14, 15, 16, 17, 18, 19, 20, 21, 22, 23, 24, 25, 26, 27, 28, 29, 30, 31, 32, 33, 34, 35, 36] (Bl w17) (Bl w17) (by kernel_rfl) hS0 ?_
                    refine wpDet_take ?vW0 (Bl.stays w17) (fun _ h => h) (i := 0) rfl (by kernel_rfl) (by kernel_rfl) (by kernel_rfl) (by kernel_rfl) (fun _ _ _ h => h) (Gives.value (by rfl) ?yW0) ?rW0
                    case yW0 => (intro w' hSw; (try dsimp only at hSw); go_simp; try with_reducible rfl)
                    (try simp only [Act.put, List.getElem_toArray, List.getElem_cons_zero, List.getElem_cons_succ, List.setIfInBounds_toArray, List.set_cons_zero, List.set_cons_succ])
                    refine wpDet_take ?vW1 (Bl.stays w17) (fun _ h => h) (i := 1) rfl (by kernel_rfl) (by kernel_rfl) (by kernel_rfl) (by kernel_rfl) (fun _ _ _ h => h) (Gives.value (by rfl) ?yW1) ?rW1
                    case yW1 => (intro w' hSw; (try dsimp only at hSw); go_simp; try with_reducible rfl)
                    (try simp only [Act.put, List.getElem_toArray, List.getElem_cons_zero, List.getElem_cons_succ, List.setIfInBounds_toArray, List.set_cons_zero, List.set_cons_succ])
                    refine wpDet_take ?vW2 (Bl.stays w17) (fun _ h => h) (i := 2) rfl (by kernel_rfl) (by kernel_rfl) (by kernel_rfl) (by kernel_rfl) (fun _ _ _ h => h) (Gives.value (by rfl) ?yW2) ?rW2
                    case yW2 => (intro w' hSw; (try dsimp only at hSw); go_simp; try with_reducible rfl)
                    (try simp only [Act.put, List.getElem_toArray, List.getElem_cons_zero, List.getElem_cons_succ, List.setIfInBounds_toArray, List.set_cons_zero, List.set_cons_succ])
                    refine wpDet_take ?vW3 (Bl.stays w17) (fun _ h => h) (i := 3) rfl (by kernel_rfl) (by kernel_rfl) (by kernel_rfl) (by kernel_rfl) (fun _ _ _ h => h) (Gives.value (by rfl) ?yW3) ?rW3
                    case yW3 => (intro w' hSw; (try dsimp only at hSw); go_simp; try with_reducible rfl)
                    (try simp only [Act.put, List.getElem_toArray, List.getElem_cons_zero, List.getElem_cons_succ, List.setIfInBounds_toArray, List.set_cons_zero, List.set_cons_succ])
                    refine wpDet_take ?vW4 (Bl.stays w17) (fun _ h => h) (i := 4) rfl (by kernel_rfl) (by kernel_rfl) (by kernel_rfl) (by kernel_rfl) (fun _ _ _ h => h) (Gives.value (by rfl) ?yW4) ?rW4
                    case yW4 => (intro w' hSw; (try dsimp only at hSw); go_simp; try with_reducible rfl)
                    (try simp only [Act.put, List.getElem_toArray, List.getElem_cons_zero, List.getElem_cons_succ, List.setIfInBounds_toArray, List.set_cons_zero, List.set_cons_succ])
                    refine wpDet_take ?vW5 (Bl.stays w17) (fun _ h => h) (i := 5) rfl (by kernel_rfl) (by kernel_rfl) (by kernel_rfl) (by kernel_rfl) (fun _ _ _ h => h) (Gives.value (by rfl) ?yW5) ?rW5
                    case yW5 => (intro w' hSw; (try dsimp only at hSw); go_simp; try with_reducible rfl)
                    (try simp only [Act.put, List.getElem_toArray, List.getElem_cons_zero, List.getElem_cons_succ, List.setIfInBounds_toArray, List.set_cons_zero, List.set_cons_succ])
                    refine wpDet_take ?vW6 (Bl.stays w17) (fun _ h => h) (i := 6) rfl (by kernel_rfl) (by kernel_rfl) (by kernel_rfl) (by kernel_rfl) (fun _ _ _ h => h) (Gives.value (by rfl) ?yW6) ?rW6
                    case yW6 => (intro w' hSw; (try dsimp only at hSw); go_simp; try with_reducible rfl)
                    (try simp only [Act.put, List.getElem_toArray, List.getElem_cons_zero, List.getElem_cons_succ, List.setIfInBounds_toArray, List.set_cons_zero, List.set_cons_succ])
                    refine wpDet_take ?vW7 (Bl.stays w17) (fun _ h => h) (i := 7) rfl (by kernel_rfl) (by kernel_rfl) (by kernel_rfl) (by kernel_rfl) (fun _ _ _ h => h) (Gives.value (by rfl) ?yW7) ?rW7
                    case yW7 => (intro w' hSw; (try dsimp only at hSw); go_simp; try with_reducible rfl)
                    (try simp only [Act.put, List.getElem_toArray, List.getElem_cons_zero, List.getElem_cons_succ, List.setIfInBounds_toArray, List.set_cons_zero, List.set_cons_succ])
                    refine wpDet_take ?vW8 (Bl.stays w17) (fun _ h => h) (i := 8) rfl (by kernel_rfl) (by kernel_rfl) (by kernel_rfl) (by kernel_rfl) (fun _ _ _ h => h) (Gives.value (by rfl) ?yW8) ?rW8
                    case yW8 => (intro w' hSw; (try dsimp only at hSw); go_simp; try with_reducible rfl)
                    (try simp only [Act.put, List.getElem_toArray, List.getElem_cons_zero, List.getElem_cons_succ, List.setIfInBounds_toArray, List.set_cons_zero, List.set_cons_succ])
                    refine wpDet_take ?vW9 (Bl.stays w17) (fun _ h => h) (i := 9) rfl (by kernel_rfl) (by kernel_rfl) (by kernel_rfl) (by kernel_rfl) (fun _ _ _ h => h) (Gives.value (by rfl) ?yW9) ?rW9
                    case yW9 => (intro w' hSw; (try dsimp only at hSw); go_simp; try with_reducible rfl)
                    (try simp only [Act.put, List.getElem_toArray, List.getElem_cons_zero, List.getElem_cons_succ, List.setIfInBounds_toArray, List.set_cons_zero, List.set_cons_succ])
                    refine wpDet_take (.int .i64 (s.last - s.com)) (Bl.stays w17) (fun _ h => h) (i := 10) rfl (by kernel_rfl) (by kernel_rfl) (by kernel_rfl) (by kernel_rfl) (fun _ _ _ h => h) (Gives.call 33 #[.pointer (some ⟨g, 0, none⟩)] (by rfl) (fun _ => by first | (go_simp; done) | (go_simp; rfl)) (fun W hW => (dirtyX (hS.below hW)))) ?_
                    (try simp only [Act.put, List.getElem_toArray, List.getElem_cons_zero, List.getElem_cons_succ, List.setIfInBounds_toArray, List.set_cons_zero, List.set_cons_succ])
                    refine wpDet_take ?vW11 (Bl.stays w17) (fun _ h => h) (i := 11) rfl (by kernel_rfl) (by kernel_rfl) (by kernel_rfl) (by kernel_rfl) (fun _ _ _ h => h) (Gives.value (by rfl) ?yW11) ?rW11
                    case yW11 => (intro w' hSw; (try dsimp only at hSw); go_simp; try with_reducible rfl)
                    (try simp only [Act.put, List.getElem_toArray, List.getElem_cons_zero, List.getElem_cons_succ, List.setIfInBounds_toArray, List.set_cons_zero, List.set_cons_succ])
                    refine wpDet_take (.int .i64 (s.last - s.com)) (Bl.stays w17) (fun _ h => h) (i := 12) rfl (by kernel_rfl) (by kernel_rfl) (by kernel_rfl) (by kernel_rfl) (fun _ _ _ h => h) (Gives.call 33 #[.pointer (some ⟨g2, 0, none⟩)] (by rfl) (fun _ => by first | (go_simp; done) | (go_simp; rfl)) (fun W hW => (hD2 _ hW))) ?_
                    (try simp only [Act.put, List.getElem_toArray, List.getElem_cons_zero, List.getElem_cons_succ, List.setIfInBounds_toArray, List.set_cons_zero, List.set_cons_succ])
                    refine wpDet_take ?vW13 (Bl.stays w17) (fun _ h => h) (i := 13) rfl (by kernel_rfl) (by kernel_rfl) (by kernel_rfl) (by kernel_rfl) (fun _ _ _ h => h) (Gives.value (by rfl) ?yW13) ?rW13
                    case yW13 => (intro w' hSw; (try dsimp only at hSw); go_simp; try with_reducible rfl)
                    (try simp only [Act.put, List.getElem_toArray, List.getElem_cons_zero, List.getElem_cons_succ, List.setIfInBounds_toArray, List.set_cons_zero, List.set_cons_succ])
                    refine wpDet_take ?vW14 (Bl.stays w17) (fun _ h => h) (i := 14) rfl (by kernel_rfl) (by kernel_rfl) (by kernel_rfl) (by kernel_rfl) (fun _ _ _ h => h) (Gives.value (by rfl) ?yW14) ?rW14
                    case yW14 => (intro w' hSw; (try dsimp only at hSw); go_simp; try with_reducible rfl)
                    (try simp only [Act.put, List.getElem_toArray, List.getElem_cons_zero, List.getElem_cons_succ, List.setIfInBounds_toArray, List.set_cons_zero, List.set_cons_succ])
                    refine wpDet_take ?vW15 (Bl.stays w17) (fun _ h => h) (i := 15) rfl (by kernel_rfl) (by kernel_rfl) (by kernel_rfl) (by kernel_rfl) (fun _ _ _ h => h) (Gives.value (by rfl) ?yW15) ?rW15
                    case yW15 => (intro w' hSw; (try dsimp only at hSw); go_simp; try with_reducible rfl)
                    (try simp only [Act.put, List.getElem_toArray, List.getElem_cons_zero, List.getElem_cons_succ, List.setIfInBounds_toArray, List.set_cons_zero, List.set_cons_succ])
                    refine wpDet_take ?vW16 (Bl.stays w17) (fun _ h => h) (i := 16) rfl (by kernel_rfl) (by kernel_rfl) (by kernel_rfl) (by kernel_rfl) (fun _ _ _ h => h) (Gives.value (by rfl) ?yW16) ?rW16
                    case yW16 => (intro w' hSw; (try dsimp only at hSw); go_simp; try with_reducible rfl)
                    (try simp only [Act.put, List.getElem_toArray, List.getElem_cons_zero, List.getElem_cons_succ, List.setIfInBounds_toArray, List.set_cons_zero, List.set_cons_succ])
                    refine wpDet_take ?vW17 (Bl.stays w17) (fun _ h => h) (i := 17) rfl (by kernel_rfl) (by kernel_rfl) (by kernel_rfl) (by kernel_rfl) (fun _ _ _ h => h) (Gives.value (by rfl) ?yW17) ?rW17
                    case yW17 => (intro w' hSw; have kk := At.below hK (Bl.out hSw); have q0 := At.cell kk 0; have q1 := At.cell kk 1; have q2 := At.cell kk 2; have q3 := At.cell kk 3; have q4 := At.cell kk 4; have q5 := At.cell kk 5; have q6 := At.cell kk 6; have q7 := At.cell kk 7; simp only [List.getElem?_toArray, List.getElem?_cons_zero, List.getElem?_cons_succ] at q0 q1 q2 q3 q4 q5 q6 q7; (try dsimp only at hSw); go_simp; try with_reducible rfl)
                    (try simp only [Act.put, List.getElem_toArray, List.getElem_cons_zero, List.getElem_cons_succ, List.setIfInBounds_toArray, List.set_cons_zero, List.set_cons_succ])
                    refine wpDet_take tvc (Bl.stays w17) (fun _ h => h) (i := 18) rfl (by kernel_rfl) (by kernel_rfl) (by kernel_rfl) (by kernel_rfl) (fun _ _ _ h => h) (Gives.call 26 #[.pointer (some ⟨g, 0, none⟩), .agg #[.int .u8 (bt (q) 0), .int .u8 (bt (q) 1), .int .u8 (bt (q) 2), .int .u8 (bt (q) 3), .int .u8 (bt (q) 4), .int .u8 (bt (q) 5), .int .u8 (bt (q) 6), .int .u8 (bt (q) 7)]] (by rfl) (fun _ => by first | (go_simp; done) | (go_simp; rfl)) (fun W hW => (hc1 _ hW))) ?_
                    (try simp only [Act.put, List.getElem_toArray, List.getElem_cons_zero, List.getElem_cons_succ, List.setIfInBounds_toArray, List.set_cons_zero, List.set_cons_succ])
                    refine wpDet_take ?vW19 (Bl.stays w17) (fun _ h => h) (i := 19) rfl (by kernel_rfl) (by kernel_rfl) (by kernel_rfl) (by kernel_rfl) (fun _ _ _ h => h) (Gives.value (by rfl) ?yW19) ?rW19
                    case yW19 => (intro w' hSw; (try dsimp only at hSw); go_simp; try with_reducible rfl)
                    (try simp only [Act.put, List.getElem_toArray, List.getElem_cons_zero, List.getElem_cons_succ, List.setIfInBounds_toArray, List.set_cons_zero, List.set_cons_succ])
                    refine wpDet_take ?vW20 (Bl.stays w17) (fun _ h => h) (i := 20) rfl (by kernel_rfl) (by kernel_rfl) (by kernel_rfl) (by kernel_rfl) (fun _ _ _ h => h) (Gives.value (by rfl) ?yW20) ?rW20
                    case yW20 => (intro w' hSw; have kk := At.below hK (Bl.out hSw); have q0 := At.cell kk 0; have q1 := At.cell kk 1; have q2 := At.cell kk 2; have q3 := At.cell kk 3; have q4 := At.cell kk 4; have q5 := At.cell kk 5; have q6 := At.cell kk 6; have q7 := At.cell kk 7; simp only [List.getElem?_toArray, List.getElem?_cons_zero, List.getElem?_cons_succ] at q0 q1 q2 q3 q4 q5 q6 q7; (try dsimp only at hSw); go_simp; try with_reducible rfl)
                    (try simp only [Act.put, List.getElem_toArray, List.getElem_cons_zero, List.getElem_cons_succ, List.setIfInBounds_toArray, List.set_cons_zero, List.set_cons_succ])
                    refine wpDet_take tvc (Bl.stays w17) (fun _ h => h) (i := 21) rfl (by kernel_rfl) (by kernel_rfl) (by kernel_rfl) (by kernel_rfl) (fun _ _ _ h => h) (Gives.call 26 #[.pointer (some ⟨g2, 0, none⟩), .agg #[.int .u8 (bt (q) 0), .int .u8 (bt (q) 1), .int .u8 (bt (q) 2), .int .u8 (bt (q) 3), .int .u8 (bt (q) 4), .int .u8 (bt (q) 5), .int .u8 (bt (q) 6), .int .u8 (bt (q) 7)]] (by rfl) (fun _ => by first | (go_simp; done) | (go_simp; rfl)) (fun W hW => (hc2 _ hW))) ?_
                    (try simp only [Act.put, List.getElem_toArray, List.getElem_cons_zero, List.getElem_cons_succ, List.setIfInBounds_toArray, List.set_cons_zero, List.set_cons_succ])
                    refine wpDet_take ?vW22 (Bl.stays w17) (fun _ h => h) (i := 22) rfl (by kernel_rfl) (by kernel_rfl) (by kernel_rfl) (by kernel_rfl) (fun _ _ _ h => h) (Gives.value (by rfl) ?yW22) ?rW22
                    case yW22 => (intro w' hSw; have hq := hec w'; have hg := hgc w'; (try dsimp only at hSw); go_simp; try with_reducible rfl)
                    (try simp only [Act.put, List.getElem_toArray, List.getElem_cons_zero, List.getElem_cons_succ, List.setIfInBounds_toArray, List.set_cons_zero, List.set_cons_succ])
                    refine wpDet_take ?vW23 (Bl.stays w17) (fun _ h => h) (i := 23) rfl (by kernel_rfl) (by kernel_rfl) (by kernel_rfl) (by kernel_rfl) (fun _ _ _ h => h) (Gives.value (by rfl) ?yW23) ?rW23
                    case yW23 => (intro w' hSw; (try dsimp only at hSw); go_simp; try with_reducible rfl)
                    (try simp only [Act.put, List.getElem_toArray, List.getElem_cons_zero, List.getElem_cons_succ, List.setIfInBounds_toArray, List.set_cons_zero, List.set_cons_succ])
                    refine wpDet_take ?vW24 (Bl.stays w17) (fun _ h => h) (i := 24) rfl (by kernel_rfl) (by kernel_rfl) (by kernel_rfl) (by kernel_rfl) (fun _ _ _ h => h) (Gives.value (by rfl) ?yW24) ?rW24
                    case yW24 => (intro w' hSw; (try dsimp only at hSw); go_simp; try with_reducible rfl)
                    (try simp only [Act.put, List.getElem_toArray, List.getElem_cons_zero, List.getElem_cons_succ, List.setIfInBounds_toArray, List.set_cons_zero, List.set_cons_succ])
                    refine wpDet_take ?vW25 (Bl.stays w17) (fun _ h => h) (i := 25) rfl (by kernel_rfl) (by kernel_rfl) (by kernel_rfl) (by kernel_rfl) (fun _ _ _ h => h) (Gives.value (by rfl) ?yW25) ?rW25
                    case yW25 => (intro w' hSw; (try dsimp only at hSw); go_simp; try with_reducible rfl)
                    (try simp only [Act.put, List.getElem_toArray, List.getElem_cons_zero, List.getElem_cons_succ, List.setIfInBounds_toArray, List.set_cons_zero, List.set_cons_succ])
                    refine wpDet_take ?vW26 (Bl.stays w17) (fun _ h => h) (i := 26) rfl (by kernel_rfl) (by kernel_rfl) (by kernel_rfl) (by kernel_rfl) (fun _ _ _ h => h) (Gives.value (by rfl) ?yW26) ?rW26
                    case yW26 => (intro w' hSw; have kk := At.below hK (Bl.out hSw); have q0 := At.cell kk 0; have q1 := At.cell kk 1; have q2 := At.cell kk 2; have q3 := At.cell kk 3; have q4 := At.cell kk 4; have q5 := At.cell kk 5; have q6 := At.cell kk 6; have q7 := At.cell kk 7; simp only [List.getElem?_toArray, List.getElem?_cons_zero, List.getElem?_cons_succ] at q0 q1 q2 q3 q4 q5 q6 q7; (try dsimp only at hSw); go_simp; try with_reducible rfl)
                    (try simp only [Act.put, List.getElem_toArray, List.getElem_cons_zero, List.getElem_cons_succ, List.setIfInBounds_toArray, List.set_cons_zero, List.set_cons_succ])
                    refine wpDet_take tvt (Bl.stays w17) (fun _ h => h) (i := 27) rfl (by kernel_rfl) (by kernel_rfl) (by kernel_rfl) (by kernel_rfl) (fun _ _ _ h => h) (Gives.call 29 #[.pointer (some ⟨g, 0, none⟩), .agg #[.int .u8 (bt (q) 0), .int .u8 (bt (q) 1), .int .u8 (bt (q) 2), .int .u8 (bt (q) 3), .int .u8 (bt (q) 4), .int .u8 (bt (q) 5), .int .u8 (bt (q) 6), .int .u8 (bt (q) 7)]] (by rfl) (fun _ => by first | (go_simp; done) | (go_simp; rfl)) (fun W hW => (ht1 _ hW))) ?_
                    (try simp only [Act.put, List.getElem_toArray, List.getElem_cons_zero, List.getElem_cons_succ, List.setIfInBounds_toArray, List.set_cons_zero, List.set_cons_succ])
                    refine wpDet_take ?vW28 (Bl.stays w17) (fun _ h => h) (i := 28) rfl (by kernel_rfl) (by kernel_rfl) (by kernel_rfl) (by kernel_rfl) (fun _ _ _ h => h) (Gives.value (by rfl) ?yW28) ?rW28
                    case yW28 => (intro w' hSw; (try dsimp only at hSw); go_simp; try with_reducible rfl)
                    (try simp only [Act.put, List.getElem_toArray, List.getElem_cons_zero, List.getElem_cons_succ, List.setIfInBounds_toArray, List.set_cons_zero, List.set_cons_succ])
                    refine wpDet_take ?vW29 (Bl.stays w17) (fun _ h => h) (i := 29) rfl (by kernel_rfl) (by kernel_rfl) (by kernel_rfl) (by kernel_rfl) (fun _ _ _ h => h) (Gives.value (by rfl) ?yW29) ?rW29
                    case yW29 => (intro w' hSw; have kk := At.below hK (Bl.out hSw); have q0 := At.cell kk 0; have q1 := At.cell kk 1; have q2 := At.cell kk 2; have q3 := At.cell kk 3; have q4 := At.cell kk 4; have q5 := At.cell kk 5; have q6 := At.cell kk 6; have q7 := At.cell kk 7; simp only [List.getElem?_toArray, List.getElem?_cons_zero, List.getElem?_cons_succ] at q0 q1 q2 q3 q4 q5 q6 q7; (try dsimp only at hSw); go_simp; try with_reducible rfl)
                    (try simp only [Act.put, List.getElem_toArray, List.getElem_cons_zero, List.getElem_cons_succ, List.setIfInBounds_toArray, List.set_cons_zero, List.set_cons_succ])
                    refine wpDet_take tvt (Bl.stays w17) (fun _ h => h) (i := 30) rfl (by kernel_rfl) (by kernel_rfl) (by kernel_rfl) (by kernel_rfl) (fun _ _ _ h => h) (Gives.call 29 #[.pointer (some ⟨g2, 0, none⟩), .agg #[.int .u8 (bt (q) 0), .int .u8 (bt (q) 1), .int .u8 (bt (q) 2), .int .u8 (bt (q) 3), .int .u8 (bt (q) 4), .int .u8 (bt (q) 5), .int .u8 (bt (q) 6), .int .u8 (bt (q) 7)]] (by rfl) (fun _ => by first | (go_simp; done) | (go_simp; rfl)) (fun W hW => (ht2 _ hW))) ?_
                    (try simp only [Act.put, List.getElem_toArray, List.getElem_cons_zero, List.getElem_cons_succ, List.setIfInBounds_toArray, List.set_cons_zero, List.set_cons_succ])
                    refine wpDet_take ?vW31 (Bl.stays w17) (fun _ h => h) (i := 31) rfl (by kernel_rfl) (by kernel_rfl) (by kernel_rfl) (by kernel_rfl) (fun _ _ _ h => h) (Gives.value (by rfl) ?yW31) ?rW31
                    case yW31 => (intro w' hSw; have hq := het w'; have hg := hgt w'; (try dsimp only at hSw); go_simp; try with_reducible rfl)
                    (try simp only [Act.put, List.getElem_toArray, List.getElem_cons_zero, List.getElem_cons_succ, List.setIfInBounds_toArray, List.set_cons_zero, List.set_cons_succ])
                    refine wpDet_take ?vW32 (Bl.stays w17) (fun _ h => h) (i := 32) rfl (by kernel_rfl) (by kernel_rfl) (by kernel_rfl) (by kernel_rfl) (fun _ _ _ h => h) (Gives.value (by rfl) ?yW32) ?rW32
                    case yW32 => (intro w' hSw; (try dsimp only at hSw); go_simp; try with_reducible rfl)
                    (try simp only [Act.put, List.getElem_toArray, List.getElem_cons_zero, List.getElem_cons_succ, List.setIfInBounds_toArray, List.set_cons_zero, List.set_cons_succ])
                    refine wpDet_take ?vW33 (Bl.stays w17) (fun _ h => h) (i := 33) rfl (by kernel_rfl) (by kernel_rfl) (by kernel_rfl) (by kernel_rfl) (fun _ _ _ h => h) (Gives.value (by rfl) ?yW33) ?rW33
                    case yW33 => (intro w' hSw; (try dsimp only at hSw); go_simp; try with_reducible rfl)
                    (try simp only [Act.put, List.getElem_toArray, List.getElem_cons_zero, List.getElem_cons_succ, List.setIfInBounds_toArray, List.set_cons_zero, List.set_cons_succ])
                    refine wpDet_take (.bool true) (Bl.stays w17) (fun _ h => h) (i := 34) rfl (by kernel_rfl) (by kernel_rfl) (by kernel_rfl) (by kernel_rfl) (fun _ _ _ h => h) (Gives.call 12 #[] (by rfl) (fun _ => by first | (go_simp; done) | (go_simp; rfl)) (fun W hW => (awake_any _ (hTV.up hW)))) ?_
                    (try simp only [Act.put, List.getElem_toArray, List.getElem_cons_zero, List.getElem_cons_succ, List.setIfInBounds_toArray, List.set_cons_zero, List.set_cons_succ])
                    refine wpDet_take ?vW35 (Bl.stays w17) (fun _ h => h) (i := 35) rfl (by kernel_rfl) (by kernel_rfl) (by kernel_rfl) (by kernel_rfl) (fun _ _ _ h => h) (Gives.value (by rfl) ?yW35) ?rW35
                    case yW35 => (intro w' hSw; (try dsimp only at hSw); go_simp; try with_reducible rfl)
                    (try simp only [Act.put, List.getElem_toArray, List.getElem_cons_zero, List.getElem_cons_succ, List.setIfInBounds_toArray, List.set_cons_zero, List.set_cons_succ])
                    refine wpDet_take ?vW36 (Bl.stays w17) (fun _ h => h) (i := 36) rfl (by kernel_rfl) (by kernel_rfl) (by kernel_rfl) (by kernel_rfl) (fun _ _ _ h => h) (Gives.value (by rfl) ?yW36) ?rW36
                    case yW36 => (intro w' hSw; (try dsimp only at hSw); go_simp; try with_reducible rfl)
                    (try simp only [Act.put, List.getElem_toArray, List.getElem_cons_zero, List.getElem_cons_succ, List.setIfInBounds_toArray, List.set_cons_zero, List.set_cons_succ])
                    refine wpDet_done (by kernel_rfl) (fun W9 hV => ?_) _
                    have hB9 := hM.bel.trans ((Bl.out hV).mono hM.bel.size)
                    go_wp2_with fail
                    go_ret
                    exact ⟨rfl, hB9⟩
          · as_aux_lemma =>
              have hz : (chkE ix ep C D != 0) = true := by simpa using hcz
              generalize chkE ix ep C D = ce at *
              clear hcz
              have hW := awake_any _ (hT.up HB)
              go_wp2_with fail
              refine hW.mono ?_
              rintro e w9 ⟨rfl, hb9⟩
              go_wp2_with fail
              go_ret
              exact ⟨rfl, HB.trans (hb9.mono HB.size)⟩

end Go.Proofs.YtnbgdkdnlfomeaaDoor.M
