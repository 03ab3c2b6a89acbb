/-
  Own text: the walk of the law ShelfRefused.
-/
import Derived.Test.YtnbgdkdnlfomeaaDoorBXt
namespace Go.Proofs.YtnbgdkdnlfomeaaDoor.M
open Go.ChangeShapes Go.WideShapes Go.ChangeAt Go.RowKit Go.ChangeMaps Go.MapKept Go.Maps Go.Shelf Go.Proofs
set_option linter.unusedSimpArgs false

/-- A table was told; two were. -/
def TB1 (w : World) (v : Value) (m : Sm) (W : World) : Prop := Bl w W ∧ TabR W v m
def TB2 (w : World) (v : Value) (m : Sm) (v2 : Value) (m2 : Sm) (W : World) : Prop := Bl w W ∧ TabR W v m ∧ TabR W v2 m2
theorem TB1.stays (w : World) (v : Value) (m : Sm) : Stays (TB1 w v m) := fun _ _ h hb => ⟨Bl.stays w _ _ h.1 hb, h.2.below hb⟩
theorem TB2.stays (w : World) (v : Value) (m : Sm) (v2 : Value) (m2 : Sm) : Stays (TB2 w v m v2 m2) := fun _ _ h hb => ⟨Bl.stays w _ _ h.1 hb, h.2.1.below hb, h.2.2.below hb⟩

set_option maxRecDepth 20000 in
set_option maxHeartbeats 4000000 in
theorem walk_ShelfRefused (w : World) (hT : Tabs w) (ix ep : Int) (cp : Option Addr) (cn cc : Nat) (C : List Ce) (dp : Option Addr) (dn dc : Nat) (D : List Dn) (hC : RdG celS w cp cn cc C) (hD : RdG donS w dp dn dc D) (hck : ∀ c ∈ C, Ce.fit c) (hcn : cn ≤ 9223372036854775807) (hdn : dn ≤ 9223372036854775807)
    (p : Option Addr) (n c : Nat) (ds : List Dv) (hr : RdG dooS w p n c ds) (hds : ∀ d ∈ ds, okD d) (hnn : n ≤ 9223372036854775807) (d : Dv) (hd : okD d) :
    Calls Tryd.prog 7 #[.agg #[.int .i64 ix, .int .i64 ep, .slice cp cn cc, .slice dp dn dc], .slice p n c, .agg #[.int .i64 d.op, .int .i64 d.ep, .int .i64 d.i, .bool d.nr, .int .u8 (bt d.k 0), .int .u8 (bt d.k 1), .int .u8 (bt d.k 2), .int .u8 (bt d.k 3), .int .u8 (bt d.k 4), .int .u8 (bt d.k 5), .int .u8 (bt d.k 6), .int .u8 (bt d.k 7), .string d.s, .int .i64 d.c, .int .i64 d.q, .int .i64 d.x.ix, .int .i64 d.x.ep, .int .u8 (bt d.x.k 0), .int .u8 (bt d.x.k 1), .int .u8 (bt d.x.k 2), .int .u8 (bt d.x.k 3), .int .u8 (bt d.x.k 4), .int .u8 (bt d.x.k 5), .int .u8 (bt d.x.k 6), .int .u8 (bt d.x.k 7), .int .i64 d.x.v, .string d.x.s, .int .i64 d.x.c, .int .i64 d.x.q]] w fun e w' => e = .returned (.bool true) ∧ Below w.heap.size w w' := by
  have h0 := below_alloc' w (.cells #[.int .i64 ix, .int .i64 ep, .slice cp cn cc, .slice dp dn dc] 25)
  have hA0 := At.new 25 w #[.int .i64 ix, .int .i64 ep, .slice cp cn cc, .slice dp dn dc]
  have s1 : (w.alloc (.cells #[.int .i64 ix, .int .i64 ep, .slice cp cn cc, .slice dp dn dc] 25)).heap.size = w.heap.size + 1 := by simp
  generalize hW1 : (w.alloc (.cells #[.int .i64 ix, .int .i64 ep, .slice cp cn cc, .slice dp dn dc] 25)) = W1 at *
  have h1 := below_alloc' W1 (.cells #[.int .i64 d.op, .int .i64 d.ep, .int .i64 d.i, .bool d.nr, .int .u8 (bt d.k 0), .int .u8 (bt d.k 1), .int .u8 (bt d.k 2), .int .u8 (bt d.k 3), .int .u8 (bt d.k 4), .int .u8 (bt d.k 5), .int .u8 (bt d.k 6), .int .u8 (bt d.k 7), .string d.s, .int .i64 d.c, .int .i64 d.q, .int .i64 d.x.ix, .int .i64 d.x.ep, .int .u8 (bt d.x.k 0), .int .u8 (bt d.x.k 1), .int .u8 (bt d.x.k 2), .int .u8 (bt d.x.k 3), .int .u8 (bt d.x.k 4), .int .u8 (bt d.x.k 5), .int .u8 (bt d.x.k 6), .int .u8 (bt d.x.k 7), .int .i64 d.x.v, .string d.x.s, .int .i64 d.x.c, .int .i64 d.x.q] 73)
  have hK := At.new 73 W1 #[.int .i64 d.op, .int .i64 d.ep, .int .i64 d.i, .bool d.nr, .int .u8 (bt d.k 0), .int .u8 (bt d.k 1), .int .u8 (bt d.k 2), .int .u8 (bt d.k 3), .int .u8 (bt d.k 4), .int .u8 (bt d.k 5), .int .u8 (bt d.k 6), .int .u8 (bt d.k 7), .string d.s, .int .i64 d.c, .int .i64 d.q, .int .i64 d.x.ix, .int .i64 d.x.ep, .int .u8 (bt d.x.k 0), .int .u8 (bt d.x.k 1), .int .u8 (bt d.x.k 2), .int .u8 (bt d.x.k 3), .int .u8 (bt d.x.k 4), .int .u8 (bt d.x.k 5), .int .u8 (bt d.x.k 6), .int .u8 (bt d.x.k 7), .int .i64 d.x.v, .string d.x.s, .int .i64 d.x.c, .int .i64 d.x.q]
  rw [s1] at hK
  have hA := hA0.below h1
  generalize hW2 : W1.alloc (.cells #[.int .i64 d.op, .int .i64 d.ep, .int .i64 d.i, .bool d.nr, .int .u8 (bt d.k 0), .int .u8 (bt d.k 1), .int .u8 (bt d.k 2), .int .u8 (bt d.k 3), .int .u8 (bt d.k 4), .int .u8 (bt d.k 5), .int .u8 (bt d.k 6), .int .u8 (bt d.k 7), .string d.s, .int .i64 d.c, .int .i64 d.q, .int .i64 d.x.ix, .int .i64 d.x.ep, .int .u8 (bt d.x.k 0), .int .u8 (bt d.x.k 1), .int .u8 (bt d.x.k 2), .int .u8 (bt d.x.k 3), .int .u8 (bt d.x.k 4), .int .u8 (bt d.x.k 5), .int .u8 (bt d.x.k 6), .int .u8 (bt d.x.k 7), .int .i64 d.x.v, .string d.x.s, .int .i64 d.x.c, .int .i64 d.x.q] 73) = W2 at *
  have HB := h0.trans (h1.mono h0.size)
  clear h0 h1 hA0
  have hsm := small_any ix ep cp cn cc C dp dn dc W2 (hC.below HB) hcn hdn
  go_enter Tryd.func7, Tryd.ntmps7
  go_wp2_with (refine wpList_load_row rfl 25 _ rfl w.heap.size rfl _ _ _ _ hA Tryd.underlying25 rfl infoTb ?_)
  refine hsm.mono ?_
  rintro e w3 ⟨⟨bb, rfl, hbb⟩, hb⟩
  clear hsm hW2
  replace HB := HB.trans (hb.mono HB.size)
  replace hA := hA.below hb
  replace hK := hK.below hb
  clear hb
  cases bb with
  | false =>
    as_aux_lemma =>
      have hW := awake_any _ (hT.up HB)
      go_wp2_with fail
      refine hW.mono ?_
      rintro e w9 ⟨rfl, hb9⟩
      go_wp2_with fail
      go_ret
      exact ⟨rfl, HB.trans (hb9.mono HB.size)⟩
  | true =>
    as_aux_lemma =>
      obtain ⟨hcn1, hdn1⟩ := hbb rfl
      clear hbb
      have hsh := short2_any (hr.below HB) hnn d
      go_wp2_with (first | refine wpList_load_rowG rfl 73 _ rfl (w.heap.size + 1) rfl _ _ _ _ hK Tryd.underlying73 rfl infoDo ?_ | refine wpList_bslG rfl 26 1 0 _ rfl (.agg #[.int .i64 d.op, .int .i64 d.ep, .int .i64 d.i, .bool d.nr, .int .u8 (bt d.k 0), .int .u8 (bt d.k 1), .int .u8 (bt d.k 2), .int .u8 (bt d.k 3), .int .u8 (bt d.k 4), .int .u8 (bt d.k 5), .int .u8 (bt d.k 6), .int .u8 (bt d.k 7), .string d.s, .int .i64 d.c, .int .i64 d.q, .int .i64 d.x.ix, .int .i64 d.x.ep, .int .u8 (bt d.x.k 0), .int .u8 (bt d.x.k 1), .int .u8 (bt d.x.k 2), .int .u8 (bt d.x.k 3), .int .u8 (bt d.x.k 4), .int .u8 (bt d.x.k 5), .int .u8 (bt d.x.k 6), .int .u8 (bt d.x.k 7), .int .i64 d.x.v, .string d.x.s, .int .i64 d.x.c, .int .i64 d.x.q]) rfl _ _ (bsl_do d _) ?_)
      refine hsh.mono ?_
      rintro e w4 ⟨⟨bb, rfl, hbb⟩, hb⟩
      clear hsh
      replace HB := HB.trans (hb.mono HB.size)
      replace hA := hA.below hb
      replace hK := hK.below hb
      clear hb
      generalize Value.agg #[.int .i64 d.op, .int .i64 d.ep, .int .i64 d.i, .bool d.nr, .int .u8 (bt d.k 0), .int .u8 (bt d.k 1), .int .u8 (bt d.k 2), .int .u8 (bt d.k 3), .int .u8 (bt d.k 4), .int .u8 (bt d.k 5), .int .u8 (bt d.k 6), .int .u8 (bt d.k 7), .string d.s, .int .i64 d.c, .int .i64 d.q, .int .i64 d.x.ix, .int .i64 d.x.ep, .int .u8 (bt d.x.k 0), .int .u8 (bt d.x.k 1), .int .u8 (bt d.x.k 2), .int .u8 (bt d.x.k 3), .int .u8 (bt d.x.k 4), .int .u8 (bt d.x.k 5), .int .u8 (bt d.x.k 6), .int .u8 (bt d.x.k 7), .int .i64 d.x.v, .string d.x.s, .int .i64 d.x.c, .int .i64 d.x.q] = dv1
      cases bb with
      | false =>
        have hW := awake_any _ (hT.up HB)
        go_wp2_with fail
        refine hW.mono ?_
        rintro e w9 ⟨rfl, hb9⟩
        go_wp2_with fail
        go_ret
        exact ⟨rfl, HB.trans (hb9.mono HB.size)⟩
      | true =>
        as_aux_lemma =>
          have hn1 := hbb rfl
          clear hbb
          have hch := check_any ix ep cp cn cc dp dn dc C D w4 (hC.below HB) (hD.below HB) (by omega) hck (hT.up HB)
          have hcz : (chkE ix ep C D = 0) ∨ ¬ (chkE ix ep C D = 0) := Classical.em _
          go_wp2_with (refine wpList_load_rowG rfl 25 _ rfl w.heap.size rfl _ _ _ _ hA Tryd.underlying25 rfl infoTb ?_)
          refine hch.mono ?_
          rintro e w5 ⟨rfl, hb⟩
          clear hch
          replace HB := HB.trans (hb.mono HB.size)
          replace hA := hA.below hb
          replace hK := hK.below hb
          clear hb
          rcases hcz with hcz | hcz
          · as_aux_lemma =>
              have hmd := madeX (fun _ => 0) 1 ix ep cp cn cc dp dn dc C D w5 (hC.below HB) (hD.below HB) (by omega) hck (hT.up HB) (by omega) hcz p n c ds (hr.below HB) hds hnn
              have hkn := (frS_kn hcz).runs ds
              have hkl5 : w.heap.size + 1 < w5.heap.size := At.lt hK
              rw [hcz]
              generalize (frS ix ep C D).runs ds = s at *
              go_wp2_with (refine wpList_load_row rfl 25 _ rfl w.heap.size rfl _ _ _ _ hA Tryd.underlying25 rfl infoTb ?_)
              refine hmd.mono ?_
              rintro e w6 ⟨g, rfl, hb, hst, hS⟩
              clear hmd hcz
              have hM := (MO.none w w5 HB).step (i := 1) (by decide) hst
              replace HB := HB.trans (hb.mono HB.size)
              replace hA := hA.below hb
              replace hK := hK.below hb
              clear hb hst
              have hkz : mkO (fun _ => 0) w5 w6 1 (w.heap.size + 1) = 0 := by rw [mkO_old hkl5]
              clear hkl5
              generalize (mkO (fun _ => 0) w5 w6 1) = o1 at *
              have hkl : w.heap.size + 1 < w6.heap.size := At.lt hK
              have hkm : o1 (w.heap.size + 1) = 0 := hkz
              as_aux_lemma =>
                have hcl := cloneX o1 (j := 2) hS
                go_wp2_with fail
                refine hcl.mono ?_
                rintro e w7 ⟨g2, rfl, hb, hst, hC2⟩
                clear hcl
                have hS7 := hS.other hst (by decide)
                replace hM := hM.step (i := 2) (by decide) hst
                replace HB := HB.trans (hb.mono HB.size)
                replace hA := hA.below hb
                replace hK := hK.below hb
                have ho1 : (mkO o1 w6 w7 2) (w.heap.size + 1) = 0 := by rw [mkO_old hkl]; exact hkm
                clear hS hb hst hA hkm hkl
                generalize (mkO o1 w6 w7 2) = o2 at *
                as_aux_lemma =>
                  have hdo := doesX hS7 d hd (hT.up HB)
                  have hC8 := fun (W : World) (h : Stp o2 1 w7 W) => hC2.other h (by decide)
                  have hK8 := fun (W : World) (h : Stp o2 1 w7 W) => hK.other h ho1 (by decide)
                  have hM8 := fun (W : World) (h : Stp o2 1 w7 W) => hM.step (i := 1) (by decide) h
                  go_wp2_with (refine wpList_load_row rfl 73 _ rfl (w.heap.size + 1) rfl _ _ _ _ hK Tryd.underlying73 rfl infoDo ?_)
                  refine hdo.mono ?_
                  rintro e w8 ⟨rfl, hst, hS⟩
                  clear hdo hS7
                  replace hC2 := hC8 _ hst
                  replace hK := hK8 _ hst
                  replace hM := hM8 _ hst
                  clear hC8 hK8 hM8 ho1
                  have hsm := doR_same (s := s) (d := d)
                  have hdk := hd.1
                  clear hst hd
                  generalize (mkO o2 w7 w8 1) = o3 at *
                  generalize Value.agg #[.int .i64 d.op, .int .i64 d.ep, .int .i64 d.i, .bool d.nr, .int .u8 (bt d.k 0), .int .u8 (bt d.k 1), .int .u8 (bt d.k 2), .int .u8 (bt d.k 3), .int .u8 (bt d.k 4), .int .u8 (bt d.k 5), .int .u8 (bt d.k 6), .int .u8 (bt d.k 7), .string d.s, .int .i64 d.c, .int .i64 d.q, .int .i64 d.x.ix, .int .i64 d.x.ep, .int .u8 (bt d.x.k 0), .int .u8 (bt d.x.k 1), .int .u8 (bt d.x.k 2), .int .u8 (bt d.x.k 3), .int .u8 (bt d.x.k 4), .int .u8 (bt d.x.k 5), .int .u8 (bt d.x.k 6), .int .u8 (bt d.x.k 7), .int .i64 d.x.v, .string d.x.s, .int .i64 d.x.c, .int .i64 d.x.q] = dv2
                  by_cases he : (s.doR d).2.1 = 0
                  · as_aux_lemma =>
                      rw [he] at *
                      have hb8 := below_alloc' w8 (.cells #[.int .i64 (s.doR d).1.ix, .int .i64 (s.doR d).1.ep, .int .u8 (bt (s.doR d).1.k 0), .int .u8 (bt (s.doR d).1.k 1), .int .u8 (bt (s.doR d).1.k 2), .int .u8 (bt (s.doR d).1.k 3), .int .u8 (bt (s.doR d).1.k 4), .int .u8 (bt (s.doR d).1.k 5), .int .u8 (bt (s.doR d).1.k 6), .int .u8 (bt (s.doR d).1.k 7), .int .i64 (s.doR d).1.v, .string (s.doR d).1.s, .int .i64 (s.doR d).1.c, .int .i64 (s.doR d).1.q] 64)
                      have HB := hM.bel.trans (hb8.mono hM.bel.size)
                      have hW := awake_any _ (hT.up HB)
                      generalize (s.doR d).1 = x at *
                      obtain ⟨xi, xe, xk, xv, xs, xc, xq⟩ := x
                      dsimp only at *
                      clear hM hK hS hC2 hb8 hsm
                      go_wp2_with fail
                      refine hW.mono ?_
                      rintro e w9 ⟨rfl, hb9⟩
                      go_wp2_with fail
                      go_ret
                      exact ⟨rfl, HB.trans (hb9.mono HB.size)⟩
                  · as_aux_lemma =>
                      rw [hsm he] at hS
                      have hz : ((s.doR d).2.1 == 0) = false := by simpa using he
                      generalize (s.doR d).2.1 = ce at *
                      have hb := below_alloc' w8 (.cells #[.int .i64 (s.doR d).1.ix, .int .i64 (s.doR d).1.ep, .int .u8 (bt (s.doR d).1.k 0), .int .u8 (bt (s.doR d).1.k 1), .int .u8 (bt (s.doR d).1.k 2), .int .u8 (bt (s.doR d).1.k 3), .int .u8 (bt (s.doR d).1.k 4), .int .u8 (bt (s.doR d).1.k 5), .int .u8 (bt (s.doR d).1.k 6), .int .u8 (bt (s.doR d).1.k 7), .int .i64 (s.doR d).1.v, .string (s.doR d).1.s, .int .i64 (s.doR d).1.c, .int .i64 (s.doR d).1.q] 64)
                      clear hsm he
                      generalize (s.doR d).1 = x at *
                      obtain ⟨xi, xe, xk, xv, xs, xc, xq⟩ := x
                      dsimp only at hb
                      replace hM := hM.below hb
                      replace hK := hK.below hb
                      replace hS := hS.below hb
                      replace hC2 := hC2.below hb
                      clear hb
                      have hW := lowX hS
                      go_wp2_with fail
                      generalize (w8.alloc (.cells #[.int .i64 (Rc.mk xi xe xk xv xs xc xq).ix, .int .i64 (Rc.mk xi xe xk xv xs xc xq).ep, .int .u8 (bt (Rc.mk xi xe xk xv xs xc xq).k 0), .int .u8 (bt (Rc.mk xi xe xk xv xs xc xq).k 1), .int .u8 (bt (Rc.mk xi xe xk xv xs xc xq).k 2), .int .u8 (bt (Rc.mk xi xe xk xv xs xc xq).k 3), .int .u8 (bt (Rc.mk xi xe xk xv xs xc xq).k 4), .int .u8 (bt (Rc.mk xi xe xk xv xs xc xq).k 5), .int .u8 (bt (Rc.mk xi xe xk xv xs xc xq).k 6), .int .u8 (bt (Rc.mk xi xe xk xv xs xc xq).k 7), .int .i64 (Rc.mk xi xe xk xv xs xc xq).v, .string (Rc.mk xi xe xk xv xs xc xq).s, .int .i64 (Rc.mk xi xe xk xv xs xc xq).c, .int .i64 (Rc.mk xi xe xk xv xs xc xq).q] 64)) = v8 at *
                      refine hW.mono ?_
                      rintro e w9 ⟨rfl, hb⟩
                      replace hM := hM.below hb
                      replace hK := hK.below hb
                      replace hS := hS.below hb
                      replace hC2 := hC2.below hb
                      clear hb hW
                      have hW := behX hS rfl
                      go_wp2_with fail
                      refine hW.mono ?_
                      rintro e w10 ⟨p1, c1, rfl, hr1, hb⟩
                      replace hM := hM.below hb
                      replace hK := hK.below hb
                      replace hS := hS.below hb
                      replace hC2 := hC2.below hb
                      clear hb hW
                      have hW := lowX hC2
                      go_wp2_with fail
                      refine hW.mono ?_
                      rintro e w11 ⟨rfl, hb⟩
                      replace hM := hM.below hb
                      replace hK := hK.below hb
                      replace hS := hS.below hb
                      replace hC2 := hC2.below hb
                      replace hr1 := hr1.below hb
                      clear hb hW
                      have hW := behX hC2 rfl
                      go_wp2_with fail
                      refine hW.mono ?_
                      rintro e w12 ⟨p2, c2, rfl, hr2, hb⟩
                      replace hM := hM.below hb
                      replace hK := hK.below hb
                      replace hS := hS.below hb
                      replace hC2 := hC2.below hb
                      replace hr1 := hr1.below hb
                      clear hb hW
                      go_wp2_with fail
                      have hTV := hT.up hM.bel
                      have hfew := hS.inv.few
                      have hT1 := fun W (h : Bl w12 W) => topX (hS.below h) d.k hdk
                      have hT2 := fun W (h : Bl w12 W) => topX (hC2.below h) d.k hdk
                      have hEq : ∀ W, (binOp .eql 53 (Value.agg #[.int .u8 (bt ((lookC (s.low.adds s.tail).cs d.k).getD .z0).k 0), .int .u8 (bt ((lookC (s.low.adds s.tail).cs d.k).getD .z0).k 1), .int .u8 (bt ((lookC (s.low.adds s.tail).cs d.k).getD .z0).k 2), .int .u8 (bt ((lookC (s.low.adds s.tail).cs d.k).getD .z0).k 3), .int .u8 (bt ((lookC (s.low.adds s.tail).cs d.k).getD .z0).k 4), .int .u8 (bt ((lookC (s.low.adds s.tail).cs d.k).getD .z0).k 5), .int .u8 (bt ((lookC (s.low.adds s.tail).cs d.k).getD .z0).k 6), .int .u8 (bt ((lookC (s.low.adds s.tail).cs d.k).getD .z0).k 7), .int .i64 ((lookC (s.low.adds s.tail).cs d.k).getD .z0).v, .string ((lookC (s.low.adds s.tail).cs d.k).getD .z0).s]) (Value.agg #[.int .u8 (bt ((lookC (s.low.adds s.tail).cs d.k).getD .z0).k 0), .int .u8 (bt ((lookC (s.low.adds s.tail).cs d.k).getD .z0).k 1), .int .u8 (bt ((lookC (s.low.adds s.tail).cs d.k).getD .z0).k 2), .int .u8 (bt ((lookC (s.low.adds s.tail).cs d.k).getD .z0).k 3), .int .u8 (bt ((lookC (s.low.adds s.tail).cs d.k).getD .z0).k 4), .int .u8 (bt ((lookC (s.low.adds s.tail).cs d.k).getD .z0).k 5), .int .u8 (bt ((lookC (s.low.adds s.tail).cs d.k).getD .z0).k 6), .int .u8 (bt ((lookC (s.low.adds s.tail).cs d.k).getD .z0).k 7), .int .i64 ((lookC (s.low.adds s.tail).cs d.k).getD .z0).v, .string ((lookC (s.low.adds s.tail).cs d.k).getD .z0).s])).run Tryd.prog W = .ok (.bool true) W := fun W => by
                        have h := eql_cel ((lookC (s.low.adds s.tail).cs d.k).getD .z0) ((lookC (s.low.adds s.tail).cs d.k).getD .z0) W
                        rw [eqCe_self] at h
                        exact h
                      have hEg : ∀ W, (eqGuard .eql 53 (.tmp 81) (.tmp 85) (Value.agg #[.int .u8 (bt ((lookC (s.low.adds s.tail).cs d.k).getD .z0).k 0), .int .u8 (bt ((lookC (s.low.adds s.tail).cs d.k).getD .z0).k 1), .int .u8 (bt ((lookC (s.low.adds s.tail).cs d.k).getD .z0).k 2), .int .u8 (bt ((lookC (s.low.adds s.tail).cs d.k).getD .z0).k 3), .int .u8 (bt ((lookC (s.low.adds s.tail).cs d.k).getD .z0).k 4), .int .u8 (bt ((lookC (s.low.adds s.tail).cs d.k).getD .z0).k 5), .int .u8 (bt ((lookC (s.low.adds s.tail).cs d.k).getD .z0).k 6), .int .u8 (bt ((lookC (s.low.adds s.tail).cs d.k).getD .z0).k 7), .int .i64 ((lookC (s.low.adds s.tail).cs d.k).getD .z0).v, .string ((lookC (s.low.adds s.tail).cs d.k).getD .z0).s]) (Value.agg #[.int .u8 (bt ((lookC (s.low.adds s.tail).cs d.k).getD .z0).k 0), .int .u8 (bt ((lookC (s.low.adds s.tail).cs d.k).getD .z0).k 1), .int .u8 (bt ((lookC (s.low.adds s.tail).cs d.k).getD .z0).k 2), .int .u8 (bt ((lookC (s.low.adds s.tail).cs d.k).getD .z0).k 3), .int .u8 (bt ((lookC (s.low.adds s.tail).cs d.k).getD .z0).k 4), .int .u8 (bt ((lookC (s.low.adds s.tail).cs d.k).getD .z0).k 5), .int .u8 (bt ((lookC (s.low.adds s.tail).cs d.k).getD .z0).k 6), .int .u8 (bt ((lookC (s.low.adds s.tail).cs d.k).getD .z0).k 7), .int .i64 ((lookC (s.low.adds s.tail).cs d.k).getD .z0).v, .string ((lookC (s.low.adds s.tail).cs d.k).getD .z0).s])).run Tryd.prog W = .ok () W := fun W => by go_simp
                      generalize Value.agg #[.int .u8 (bt ((lookC (s.low.adds s.tail).cs d.k).getD .z0).k 0), .int .u8 (bt ((lookC (s.low.adds s.tail).cs d.k).getD .z0).k 1), .int .u8 (bt ((lookC (s.low.adds s.tail).cs d.k).getD .z0).k 2), .int .u8 (bt ((lookC (s.low.adds s.tail).cs d.k).getD .z0).k 3), .int .u8 (bt ((lookC (s.low.adds s.tail).cs d.k).getD .z0).k 4), .int .u8 (bt ((lookC (s.low.adds s.tail).cs d.k).getD .z0).k 5), .int .u8 (bt ((lookC (s.low.adds s.tail).cs d.k).getD .z0).k 6), .int .u8 (bt ((lookC (s.low.adds s.tail).cs d.k).getD .z0).k 7), .int .i64 ((lookC (s.low.adds s.tail).cs d.k).getD .z0).v, .string ((lookC (s.low.adds s.tail).cs d.k).getD .z0).s] = tvx at hT1 hT2 hEq hEg
                      have hS0 : Bl w12 w12.drew := (Below.refl _ _).drew
                      refine wp_region_det [0, 1, 2, 3, 4, 6, 9, 10, 11, 12, 13, 14, 15, 16, 17, 18, 19, 20, 21, 22, 23, 24, 25, 26, 27, 28, 29, 30, 31] (Bl w12) (Bl w12) (by kernel_rfl) hS0 ?_
                      refine wpDet_take ?vW0 (Bl.stays w12) (fun _ h => h) (i := 0) rfl (by kernel_rfl) (by kernel_rfl) (by kernel_rfl) (by kernel_rfl) (fun _ _ _ h => h) (Gives.value (by rfl) ?yW0) ?rW0
                      case yW0 => (intro w' hSw; (try dsimp only at hSw); go_simp; try with_reducible rfl)
                      (try simp only [Act.put, List.getElem_toArray, List.getElem_cons_zero, List.getElem_cons_succ, List.setIfInBounds_toArray, List.set_cons_zero, List.set_cons_succ])
                      refine wpDet_take ?vW1 (Bl.stays w12) (fun _ h => h) (i := 1) rfl (by kernel_rfl) (by kernel_rfl) (by kernel_rfl) (by kernel_rfl) (fun _ _ _ h => h) (Gives.value (by rfl) ?yW1) ?rW1
                      case yW1 => (intro w' hSw; (try dsimp only at hSw); go_simp; try with_reducible rfl)
                      (try simp only [Act.put, List.getElem_toArray, List.getElem_cons_zero, List.getElem_cons_succ, List.setIfInBounds_toArray, List.set_cons_zero, List.set_cons_succ])
                      refine wpDet_take (.bool true) (Bl.stays w12) (fun _ h => h) (i := 2) rfl (by kernel_rfl) (by kernel_rfl) (by kernel_rfl) (by kernel_rfl) (fun _ _ _ h => h) (Gives.call 25 #[.slice p1 s.tail.length c1, .slice p2 s.tail.length c2] (by rfl) (fun _ => by first | (go_simp; done) | (go_simp; rfl)) (fun W hW => (sameR_any (hr1.below hW) (hr2.below hW) (by omega)))) ?_
                      (try simp only [Act.put, List.getElem_toArray, List.getElem_cons_zero, List.getElem_cons_succ, List.setIfInBounds_toArray, List.set_cons_zero, List.set_cons_succ])
                      refine wpDet_take ?vW3 (Bl.stays w12) (fun _ h => h) (i := 3) rfl (by kernel_rfl) (by kernel_rfl) (by kernel_rfl) (by kernel_rfl) (fun _ _ _ h => h) (Gives.value (by rfl) ?yW3) ?rW3
                      case yW3 => (intro w' hSw; (try dsimp only at hSw); go_simp; try with_reducible rfl)
                      (try simp only [Act.put, List.getElem_toArray, List.getElem_cons_zero, List.getElem_cons_succ, List.setIfInBounds_toArray, List.set_cons_zero, List.set_cons_succ])
                      refine wpDet_take ?vW4 (Bl.stays w12) (fun _ h => h) (i := 4) rfl (by kernel_rfl) (by kernel_rfl) (by kernel_rfl) (by kernel_rfl) (fun _ _ _ h => h) (Gives.value (by rfl) ?yW4) ?rW4
                      case yW4 => (intro w' hSw; (try dsimp only at hSw); go_simp; try with_reducible rfl)
                      (try simp only [Act.put, List.getElem_toArray, List.getElem_cons_zero, List.getElem_cons_succ, List.setIfInBounds_toArray, List.set_cons_zero, List.set_cons_succ])
                      refine wpDet_take ?vW6 (Bl.stays w12) (fun _ h => h) (i := 6) rfl (by kernel_rfl) (by kernel_rfl) (by kernel_rfl) (by kernel_rfl) (fun _ _ _ h => h) (Gives.value (by rfl) ?yW6) ?rW6
                      case yW6 => (intro w' hSw; (try dsimp only at hSw); go_simp; try with_reducible rfl)
                      (try simp only [Act.put, List.getElem_toArray, List.getElem_cons_zero, List.getElem_cons_succ, List.setIfInBounds_toArray, List.set_cons_zero, List.set_cons_succ])
                      refine wpDet_ready (rs := [5]) (by kernel_rfl) (by simp) (AllDet.cons rfl (fun V hV K hK => ?_) AllDet.nil)
                      rw [if_pos (by rfl)]
                      have hbV := Bl.out hV
                      refine wp_enterX 14 #[.pointer (some ⟨g, 0, none⟩)] (by first | (go_simp; done) | (go_simp; rfl)) (fun x W => TabR W x s.low ∧ Below V.heap.size V W) ((tabX (hS.below hbV) hkn).mono fun r w' ⟨v, h1, h2, h3⟩ => ⟨v, h1, h2, h3⟩) ?_
                      rintro tv0 V7 ⟨hqx, hbx⟩
                      have hz7 : (TB1 w12 tv0 s.low) V7 := ⟨Bl.stays w12 V _ hV hbx, hqx⟩
                      refine hK.out (TB1 w12 tv0 s.low) _ _ (TB1.stays _ _ _) (fun _ _ h => h.1) hz7 ?_
                      clear hK K hV hbV hqx hbx hz7
                      (try simp only [Act.put, List.getElem_toArray, List.getElem_cons_zero, List.getElem_cons_succ, List.setIfInBounds_toArray, List.set_cons_zero, List.set_cons_succ])
                      refine wpDet_ready (rs := [7]) (by kernel_rfl) (by simp) (AllDet.cons rfl (fun V hV K hK => ?_) AllDet.nil)
                      rw [if_pos (by rfl)]
                      have hbV := Bl.out hV.1
                      refine wp_enterX 14 #[.pointer (some ⟨g2, 0, none⟩)] (by first | (go_simp; done) | (go_simp; rfl)) (fun x W => TabR W x s.low ∧ Below V.heap.size V W) ((tabX (hC2.below hbV) hkn).mono fun r w' ⟨v, h1, h2, h3⟩ => ⟨v, h1, h2, h3⟩) ?_
                      rintro tv1 V7 ⟨hqx, hbx⟩
                      have hz7 : (TB2 w12 tv0 s.low tv1 s.low) V7 := ⟨Bl.stays w12 V _ hV.1 hbx, hV.2.below hbx, hqx⟩
                      refine hK.out (TB2 w12 tv0 s.low tv1 s.low) _ _ (TB2.stays _ _ _ _ _) (fun _ _ h => h.1) hz7 ?_
                      clear hK K hV hbV hqx hbx hz7
                      (try simp only [Act.put, List.getElem_toArray, List.getElem_cons_zero, List.getElem_cons_succ, List.setIfInBounds_toArray, List.set_cons_zero, List.set_cons_succ])
                      refine wpDet_ready (rs := [8]) (by kernel_rfl) (by simp) (AllDet.cons rfl (fun V hV K hK => ?_) AllDet.nil)
                      rw [if_pos (by rfl)]
                      have hbV := Bl.out hV.1
                      refine wp_enterX 34 #[tv0, tv1] (by first | (go_simp; done) | (go_simp; rfl)) (fun x W => x = .bool true ∧ Below V.heap.size V W) ((sameX hV.2.1 hV.2.2 hkn.low).mono fun r w' ⟨h1, h2⟩ => ⟨_, h1, rfl, h2⟩) ?_
                      rintro x7 V7 ⟨rfl, hbx⟩
                      have hz7 : Bl w12 V7 := Bl.stays w12 V _ hV.1 hbx
                      refine hK.out (Bl w12) _ _ (Bl.stays w12) (fun _ _ h => h) hz7 ?_
                      clear hK K hV hbV hbx hz7
                      (try simp only [Act.put, List.getElem_toArray, List.getElem_cons_zero, List.getElem_cons_succ, List.setIfInBounds_toArray, List.set_cons_zero, List.set_cons_succ])
                      refine wpDet_take ?vW9 (Bl.stays w12) (fun _ h => h) (i := 9) rfl (by kernel_rfl) (by kernel_rfl) (by kernel_rfl) (by kernel_rfl) (fun _ _ _ h => h) (Gives.value (by rfl) ?yW9) ?rW9
                      case yW9 => (intro w' hSw; (try dsimp only at hSw); go_simp; try with_reducible rfl)
                      (try simp only [Act.put, List.getElem_toArray, List.getElem_cons_zero, List.getElem_cons_succ, List.setIfInBounds_toArray, List.set_cons_zero, List.set_cons_succ])
                      refine wpDet_take ?vW10 (Bl.stays w12) (fun _ h => h) (i := 10) rfl (by kernel_rfl) (by kernel_rfl) (by kernel_rfl) (by kernel_rfl) (fun _ _ _ h => h) (Gives.value (by rfl) ?yW10) ?rW10
                      case yW10 => (intro w' hSw; (try dsimp only at hSw); go_simp; try with_reducible rfl)
                      (try simp only [Act.put, List.getElem_toArray, List.getElem_cons_zero, List.getElem_cons_succ, List.setIfInBounds_toArray, List.set_cons_zero, List.set_cons_succ])
                      refine wpDet_take ?vW11 (Bl.stays w12) (fun _ h => h) (i := 11) rfl (by kernel_rfl) (by kernel_rfl) (by kernel_rfl) (by kernel_rfl) (fun _ _ _ h => h) (Gives.value (by rfl) ?yW11) ?rW11
                      case yW11 => (intro w' hSw; (try dsimp only at hSw); go_simp; try with_reducible rfl)
                      (try simp only [Act.put, List.getElem_toArray, List.getElem_cons_zero, List.getElem_cons_succ, List.setIfInBounds_toArray, List.set_cons_zero, List.set_cons_succ])
                      refine wpDet_take (.int .i64 s.com) (Bl.stays w12) (fun _ h => h) (i := 12) rfl (by kernel_rfl) (by kernel_rfl) (by kernel_rfl) (by kernel_rfl) (fun _ _ _ h => h) (Gives.call 15 #[.pointer (some ⟨g, 0, none⟩)] (by rfl) (fun _ => by first | (go_simp; done) | (go_simp; rfl)) (fun W hW => (commitX (hS.below hW)))) ?_
                      (try simp only [Act.put, List.getElem_toArray, List.getElem_cons_zero, List.getElem_cons_succ, List.setIfInBounds_toArray, List.set_cons_zero, List.set_cons_succ])
                      refine wpDet_take ?vW13 (Bl.stays w12) (fun _ h => h) (i := 13) rfl (by kernel_rfl) (by kernel_rfl) (by kernel_rfl) (by kernel_rfl) (fun _ _ _ h => h) (Gives.value (by rfl) ?yW13) ?rW13
                      case yW13 => (intro w' hSw; (try dsimp only at hSw); go_simp; try with_reducible rfl)
                      (try simp only [Act.put, List.getElem_toArray, List.getElem_cons_zero, List.getElem_cons_succ, List.setIfInBounds_toArray, List.set_cons_zero, List.set_cons_succ])
                      refine wpDet_take (.int .i64 s.com) (Bl.stays w12) (fun _ h => h) (i := 14) rfl (by kernel_rfl) (by kernel_rfl) (by kernel_rfl) (by kernel_rfl) (fun _ _ _ h => h) (Gives.call 15 #[.pointer (some ⟨g2, 0, none⟩)] (by rfl) (fun _ => by first | (go_simp; done) | (go_simp; rfl)) (fun W hW => (commitX (hC2.below hW)))) ?_
                      (try simp only [Act.put, List.getElem_toArray, List.getElem_cons_zero, List.getElem_cons_succ, List.setIfInBounds_toArray, List.set_cons_zero, List.set_cons_succ])
                      refine wpDet_take ?vW15 (Bl.stays w12) (fun _ h => h) (i := 15) rfl (by kernel_rfl) (by kernel_rfl) (by kernel_rfl) (by kernel_rfl) (fun _ _ _ h => h) (Gives.value (by rfl) ?yW15) ?rW15
                      case yW15 => (intro w' hSw; (try dsimp only at hSw); go_simp; try with_reducible rfl)
                      (try simp only [Act.put, List.getElem_toArray, List.getElem_cons_zero, List.getElem_cons_succ, List.setIfInBounds_toArray, List.set_cons_zero, List.set_cons_succ])
                      refine wpDet_take ?vW16 (Bl.stays w12) (fun _ h => h) (i := 16) rfl (by kernel_rfl) (by kernel_rfl) (by kernel_rfl) (by kernel_rfl) (fun _ _ _ h => h) (Gives.value (by rfl) ?yW16) ?rW16
                      case yW16 => (intro w' hSw; (try dsimp only at hSw); go_simp; try with_reducible rfl)
                      (try simp only [Act.put, List.getElem_toArray, List.getElem_cons_zero, List.getElem_cons_succ, List.setIfInBounds_toArray, List.set_cons_zero, List.set_cons_succ])
                      refine wpDet_take ?vW17 (Bl.stays w12) (fun _ h => h) (i := 17) rfl (by kernel_rfl) (by kernel_rfl) (by kernel_rfl) (by kernel_rfl) (fun _ _ _ h => h) (Gives.value (by rfl) ?yW17) ?rW17
                      case yW17 => (intro w' hSw; (try dsimp only at hSw); go_simp; try with_reducible rfl)
                      (try simp only [Act.put, List.getElem_toArray, List.getElem_cons_zero, List.getElem_cons_succ, List.setIfInBounds_toArray, List.set_cons_zero, List.set_cons_succ])
                      refine wpDet_take ?vW18 (Bl.stays w12) (fun _ h => h) (i := 18) rfl (by kernel_rfl) (by kernel_rfl) (by kernel_rfl) (by kernel_rfl) (fun _ _ _ h => h) (Gives.value (by rfl) ?yW18) ?rW18
                      case yW18 => (intro w' hSw; (try dsimp only at hSw); go_simp; try with_reducible rfl)
                      (try simp only [Act.put, List.getElem_toArray, List.getElem_cons_zero, List.getElem_cons_succ, List.setIfInBounds_toArray, List.set_cons_zero, List.set_cons_succ])
                      refine wpDet_take ?vW19 (Bl.stays w12) (fun _ h => h) (i := 19) rfl (by kernel_rfl) (by kernel_rfl) (by kernel_rfl) (by kernel_rfl) (fun _ _ _ h => h) (Gives.value (by rfl) ?yW19) ?rW19
                      case yW19 => (intro w' hSw; (try dsimp only at hSw); go_simp; try with_reducible rfl)
                      (try simp only [Act.put, List.getElem_toArray, List.getElem_cons_zero, List.getElem_cons_succ, List.setIfInBounds_toArray, List.set_cons_zero, List.set_cons_succ])
                      refine wpDet_take ?vW20 (Bl.stays w12) (fun _ h => h) (i := 20) rfl (by kernel_rfl) (by kernel_rfl) (by kernel_rfl) (by kernel_rfl) (fun _ _ _ h => h) (Gives.value (by rfl) ?yW20) ?rW20
                      case yW20 => (intro w' hSw; have kk := At.below hK (show Below w12.heap.size w12 w' from hSw); have q0 := At.cell kk 4; have q1 := At.cell kk 5; have q2 := At.cell kk 6; have q3 := At.cell kk 7; have q4 := At.cell kk 8; have q5 := At.cell kk 9; have q6 := At.cell kk 10; have q7 := At.cell kk 11; simp only [List.getElem?_toArray, List.getElem?_cons_zero, List.getElem?_cons_succ] at q0 q1 q2 q3 q4 q5 q6 q7; (try dsimp only at hSw); go_simp; try with_reducible rfl)
                      (try simp only [Act.put, List.getElem_toArray, List.getElem_cons_zero, List.getElem_cons_succ, List.setIfInBounds_toArray, List.set_cons_zero, List.set_cons_succ])
                      refine wpDet_take tvx (Bl.stays w12) (fun _ h => h) (i := 21) rfl (by kernel_rfl) (by kernel_rfl) (by kernel_rfl) (by kernel_rfl) (fun _ _ _ h => h) (Gives.call 29 #[.pointer (some ⟨g, 0, none⟩), .agg #[.int .u8 (bt (d.k) 0), .int .u8 (bt (d.k) 1), .int .u8 (bt (d.k) 2), .int .u8 (bt (d.k) 3), .int .u8 (bt (d.k) 4), .int .u8 (bt (d.k) 5), .int .u8 (bt (d.k) 6), .int .u8 (bt (d.k) 7)]] (by rfl) (fun _ => by first | (go_simp; done) | (go_simp; rfl)) (fun W hW => (hT1 _ hW))) ?_
                      (try simp only [Act.put, List.getElem_toArray, List.getElem_cons_zero, List.getElem_cons_succ, List.setIfInBounds_toArray, List.set_cons_zero, List.set_cons_succ])
                      refine wpDet_take ?vW22 (Bl.stays w12) (fun _ h => h) (i := 22) rfl (by kernel_rfl) (by kernel_rfl) (by kernel_rfl) (by kernel_rfl) (fun _ _ _ h => h) (Gives.value (by rfl) ?yW22) ?rW22
                      case yW22 => (intro w' hSw; (try dsimp only at hSw); go_simp; try with_reducible rfl)
                      (try simp only [Act.put, List.getElem_toArray, List.getElem_cons_zero, List.getElem_cons_succ, List.setIfInBounds_toArray, List.set_cons_zero, List.set_cons_succ])
                      refine wpDet_take ?vW23 (Bl.stays w12) (fun _ h => h) (i := 23) rfl (by kernel_rfl) (by kernel_rfl) (by kernel_rfl) (by kernel_rfl) (fun _ _ _ h => h) (Gives.value (by rfl) ?yW23) ?rW23
                      case yW23 => (intro w' hSw; (try dsimp only at hSw); go_simp; try with_reducible rfl)
                      (try simp only [Act.put, List.getElem_toArray, List.getElem_cons_zero, List.getElem_cons_succ, List.setIfInBounds_toArray, List.set_cons_zero, List.set_cons_succ])
                      refine wpDet_take ?vW24 (Bl.stays w12) (fun _ h => h) (i := 24) rfl (by kernel_rfl) (by kernel_rfl) (by kernel_rfl) (by kernel_rfl) (fun _ _ _ h => h) (Gives.value (by rfl) ?yW24) ?rW24
                      case yW24 => (intro w' hSw; have kk := At.below hK (show Below w12.heap.size w12 w' from hSw); have q0 := At.cell kk 4; have q1 := At.cell kk 5; have q2 := At.cell kk 6; have q3 := At.cell kk 7; have q4 := At.cell kk 8; have q5 := At.cell kk 9; have q6 := At.cell kk 10; have q7 := At.cell kk 11; simp only [List.getElem?_toArray, List.getElem?_cons_zero, List.getElem?_cons_succ] at q0 q1 q2 q3 q4 q5 q6 q7; (try dsimp only at hSw); go_simp; try with_reducible rfl)
                      (try simp only [Act.put, List.getElem_toArray, List.getElem_cons_zero, List.getElem_cons_succ, List.setIfInBounds_toArray, List.set_cons_zero, List.set_cons_succ])
                      refine wpDet_take tvx (Bl.stays w12) (fun _ h => h) (i := 25) rfl (by kernel_rfl) (by kernel_rfl) (by kernel_rfl) (by kernel_rfl) (fun _ _ _ h => h) (Gives.call 29 #[.pointer (some ⟨g2, 0, none⟩), .agg #[.int .u8 (bt (d.k) 0), .int .u8 (bt (d.k) 1), .int .u8 (bt (d.k) 2), .int .u8 (bt (d.k) 3), .int .u8 (bt (d.k) 4), .int .u8 (bt (d.k) 5), .int .u8 (bt (d.k) 6), .int .u8 (bt (d.k) 7)]] (by rfl) (fun _ => by first | (go_simp; done) | (go_simp; rfl)) (fun W hW => (hT2 _ hW))) ?_
                      (try simp only [Act.put, List.getElem_toArray, List.getElem_cons_zero, List.getElem_cons_succ, List.setIfInBounds_toArray, List.set_cons_zero, List.set_cons_succ])
                      refine wpDet_take ?vW26 (Bl.stays w12) (fun _ h => h) (i := 26) rfl (by kernel_rfl) (by kernel_rfl) (by kernel_rfl) (by kernel_rfl) (fun _ _ _ h => h) (Gives.value (by rfl) ?yW26) ?rW26
                      case yW26 => (intro w' hSw; have hq := hEq w'; have hg := hEg w'; (try dsimp only at hSw); go_simp; try with_reducible rfl)
                      (try simp only [Act.put, List.getElem_toArray, List.getElem_cons_zero, List.getElem_cons_succ, List.setIfInBounds_toArray, List.set_cons_zero, List.set_cons_succ])
                      refine wpDet_take ?vW27 (Bl.stays w12) (fun _ h => h) (i := 27) rfl (by kernel_rfl) (by kernel_rfl) (by kernel_rfl) (by kernel_rfl) (fun _ _ _ h => h) (Gives.value (by rfl) ?yW27) ?rW27
                      case yW27 => (intro w' hSw; (try dsimp only at hSw); go_simp; try with_reducible rfl)
                      (try simp only [Act.put, List.getElem_toArray, List.getElem_cons_zero, List.getElem_cons_succ, List.setIfInBounds_toArray, List.set_cons_zero, List.set_cons_succ])
                      refine wpDet_take ?vW28 (Bl.stays w12) (fun _ h => h) (i := 28) rfl (by kernel_rfl) (by kernel_rfl) (by kernel_rfl) (by kernel_rfl) (fun _ _ _ h => h) (Gives.value (by rfl) ?yW28) ?rW28
                      case yW28 => (intro w' hSw; (try dsimp only at hSw); go_simp; try with_reducible rfl)
                      (try simp only [Act.put, List.getElem_toArray, List.getElem_cons_zero, List.getElem_cons_succ, List.setIfInBounds_toArray, List.set_cons_zero, List.set_cons_succ])
                      refine wpDet_take (.bool true) (Bl.stays w12) (fun _ h => h) (i := 29) rfl (by kernel_rfl) (by kernel_rfl) (by kernel_rfl) (by kernel_rfl) (fun _ _ _ h => h) (Gives.call 12 #[] (by rfl) (fun _ => by first | (go_simp; done) | (go_simp; rfl)) (fun W hW => (awake_any _ (hTV.up hW)))) ?_
                      (try simp only [Act.put, List.getElem_toArray, List.getElem_cons_zero, List.getElem_cons_succ, List.setIfInBounds_toArray, List.set_cons_zero, List.set_cons_succ])
                      refine wpDet_take ?vW30 (Bl.stays w12) (fun _ h => h) (i := 30) rfl (by kernel_rfl) (by kernel_rfl) (by kernel_rfl) (by kernel_rfl) (fun _ _ _ h => h) (Gives.value (by rfl) ?yW30) ?rW30
                      case yW30 => (intro w' hSw; (try dsimp only at hSw); go_simp; try with_reducible rfl)
                      (try simp only [Act.put, List.getElem_toArray, List.getElem_cons_zero, List.getElem_cons_succ, List.setIfInBounds_toArray, List.set_cons_zero, List.set_cons_succ])
                      refine wpDet_take ?vW31 (Bl.stays w12) (fun _ h => h) (i := 31) rfl (by kernel_rfl) (by kernel_rfl) (by kernel_rfl) (by kernel_rfl) (fun _ _ _ h => h) (Gives.value (by rfl) ?yW31) ?rW31
                      case yW31 => (intro w' hSw; (try dsimp only at hSw); go_simp; try with_reducible rfl)
                      (try simp only [Act.put, List.getElem_toArray, List.getElem_cons_zero, List.getElem_cons_succ, List.setIfInBounds_toArray, List.set_cons_zero, List.set_cons_succ])
                      refine wpDet_done (by kernel_rfl) (fun W9 hV => ?_) _
                      have hB9 := hM.bel.trans ((Bl.out hV).mono hM.bel.size)
                      go_wp2_with fail
                      go_ret
                      exact ⟨rfl, hB9⟩
          · as_aux_lemma =>
              have hz : (chkE ix ep C D != 0) = true := by simpa using hcz
              generalize chkE ix ep C D = ce at *
              clear hcz
              have hW := awake_any _ (hT.up HB)
              go_wp2_with fail
              refine hW.mono ?_
              rintro e w9 ⟨rfl, hb9⟩
              go_wp2_with fail
              go_ret
              exact ⟨rfl, HB.trans (hb9.mono HB.size)⟩

end Go.Proofs.YtnbgdkdnlfomeaaDoor.M
