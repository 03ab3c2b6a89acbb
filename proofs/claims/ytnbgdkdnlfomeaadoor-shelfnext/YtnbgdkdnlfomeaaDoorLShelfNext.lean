/-
  Own text: the walk of the law ShelfNext.
-/
import Derived.Test.YtnbgdkdnlfomeaaDoorBXt
namespace Go.Proofs.YtnbgdkdnlfomeaaDoor.M
open Go.ChangeShapes Go.WideShapes Go.ChangeAt Go.RowKit Go.ChangeMaps Go.MapKept Go.Maps Go.Shelf Go.Proofs
set_option linter.unusedSimpArgs false

/-- A table was told; two were. -/
def TB1 (w : World) (v : Value) (m : Sm) (W : World) : Prop := Bl w W ∧ TabR W v m
def TB2 (w : World) (v : Value) (m : Sm) (v2 : Value) (m2 : Sm) (W : World) : Prop := Bl w W ∧ TabR W v m ∧ TabR W v2 m2
theorem TB1.stays (w : World) (v : Value) (m : Sm) : Stays (TB1 w v m) := fun _ _ h hb => ⟨Bl.stays w _ _ h.1 hb, h.2.below hb⟩
theorem TB2.stays (w : World) (v : Value) (m : Sm) (v2 : Value) (m2 : Sm) : Stays (TB2 w v m v2 m2) := fun _ _ h hb => ⟨Bl.stays w _ _ h.1 hb, h.2.1.below hb, h.2.2.below hb⟩

theorem field_c1 (c : Ce) (w : World) : (Instr.field 53 (.agg #[.int .u8 (bt c.k 0), .int .u8 (bt c.k 1), .int .u8 (bt c.k 2), .int .u8 (bt c.k 3), .int .u8 (bt c.k 4), .int .u8 (bt c.k 5), .int .u8 (bt c.k 6), .int .u8 (bt c.k 7), .int .i64 c.v, .string c.s]) 1).run Tryd.prog w = .ok (.int .i64 c.v) w := by
  have hu := Tryd.underlying53
  simp [Instr.field, run_underlying hu, asAgg, go_sem]

theorem field_c2 (c : Ce) (w : World) : (Instr.field 53 (.agg #[.int .u8 (bt c.k 0), .int .u8 (bt c.k 1), .int .u8 (bt c.k 2), .int .u8 (bt c.k 3), .int .u8 (bt c.k 4), .int .u8 (bt c.k 5), .int .u8 (bt c.k 6), .int .u8 (bt c.k 7), .int .i64 c.v, .string c.s]) 2).run Tryd.prog w = .ok (.string c.s) w := by
  have hu := Tryd.underlying53
  simp [Instr.field, run_underlying hu, asAgg, go_sem]

set_option maxRecDepth 20000 in
set_option maxHeartbeats 4000000 in
theorem walk_ShelfNext (w : World) (hT : Tabs w) (ix ep : Int) (cp : Option Addr) (cn cc : Nat) (C : List Ce) (dp : Option Addr) (dn dc : Nat) (D : List Dn) (hC : RdG celS w cp cn cc C) (hD : RdG donS w dp dn dc D) (hck : ∀ c ∈ C, Ce.fit c) (hcn : cn ≤ 9223372036854775807) (hdn : dn ≤ 9223372036854775807)
    (p : Option Addr) (n c : Nat) (ds : List Dv) (hr : RdG dooS w p n c ds) (hds : ∀ d ∈ ds, okD d) (hnn : n ≤ 9223372036854775807) (d : Dv) (hd : okD d) :
    Calls Tryd.prog 8 #[.agg #[.int .i64 ix, .int .i64 ep, .slice cp cn cc, .slice dp dn dc], .slice p n c, .agg #[.int .i64 d.op, .int .i64 d.ep, .int .i64 d.i, .bool d.nr, .int .u8 (bt d.k 0), .int .u8 (bt d.k 1), .int .u8 (bt d.k 2), .int .u8 (bt d.k 3), .int .u8 (bt d.k 4), .int .u8 (bt d.k 5), .int .u8 (bt d.k 6), .int .u8 (bt d.k 7), .string d.s, .int .i64 d.c, .int .i64 d.q, .int .i64 d.x.ix, .int .i64 d.x.ep, .int .u8 (bt d.x.k 0), .int .u8 (bt d.x.k 1), .int .u8 (bt d.x.k 2), .int .u8 (bt d.x.k 3), .int .u8 (bt d.x.k 4), .int .u8 (bt d.x.k 5), .int .u8 (bt d.x.k 6), .int .u8 (bt d.x.k 7), .int .i64 d.x.v, .string d.x.s, .int .i64 d.x.c, .int .i64 d.x.q]] w fun e w' => e = .returned (.bool true) ∧ Below w.heap.size w w' := by
  have h0 := below_alloc' w (.cells #[.int .i64 ix, .int .i64 ep, .slice cp cn cc, .slice dp dn dc] 25)
  have hA0 := At.new 25 w #[.int .i64 ix, .int .i64 ep, .slice cp cn cc, .slice dp dn dc]
  have s1 : (w.alloc (.cells #[.int .i64 ix, .int .i64 ep, .slice cp cn cc, .slice dp dn dc] 25)).heap.size = w.heap.size + 1 := by simp
  generalize hW1 : (w.alloc (.cells #[.int .i64 ix, .int .i64 ep, .slice cp cn cc, .slice dp dn dc] 25)) = W1 at *
  have h1 := below_alloc' W1 (.cells #[.int .i64 d.op, .int .i64 d.ep, .int .i64 d.i, .bool d.nr, .int .u8 (bt d.k 0), .int .u8 (bt d.k 1), .int .u8 (bt d.k 2), .int .u8 (bt d.k 3), .int .u8 (bt d.k 4), .int .u8 (bt d.k 5), .int .u8 (bt d.k 6), .int .u8 (bt d.k 7), .string d.s, .int .i64 d.c, .int .i64 d.q, .int .i64 d.x.ix, .int .i64 d.x.ep, .int .u8 (bt d.x.k 0), .int .u8 (bt d.x.k 1), .int .u8 (bt d.x.k 2), .int .u8 (bt d.x.k 3), .int .u8 (bt d.x.k 4), .int .u8 (bt d.x.k 5), .int .u8 (bt d.x.k 6), .int .u8 (bt d.x.k 7), .int .i64 d.x.v, .string d.x.s, .int .i64 d.x.c, .int .i64 d.x.q] 73)
  have hK := At.new 73 W1 #[.int .i64 d.op, .int .i64 d.ep, .int .i64 d.i, .bool d.nr, .int .u8 (bt d.k 0), .int .u8 (bt d.k 1), .int .u8 (bt d.k 2), .int .u8 (bt d.k 3), .int .u8 (bt d.k 4), .int .u8 (bt d.k 5), .int .u8 (bt d.k 6), .int .u8 (bt d.k 7), .string d.s, .int .i64 d.c, .int .i64 d.q, .int .i64 d.x.ix, .int .i64 d.x.ep, .int .u8 (bt d.x.k 0), .int .u8 (bt d.x.k 1), .int .u8 (bt d.x.k 2), .int .u8 (bt d.x.k 3), .int .u8 (bt d.x.k 4), .int .u8 (bt d.x.k 5), .int .u8 (bt d.x.k 6), .int .u8 (bt d.x.k 7), .int .i64 d.x.v, .string d.x.s, .int .i64 d.x.c, .int .i64 d.x.q]
  rw [s1] at hK
  have hA := hA0.below h1
  generalize hW2 : W1.alloc (.cells #[.int .i64 d.op, .int .i64 d.ep, .int .i64 d.i, .bool d.nr, .int .u8 (bt d.k 0), .int .u8 (bt d.k 1), .int .u8 (bt d.k 2), .int .u8 (bt d.k 3), .int .u8 (bt d.k 4), .int .u8 (bt d.k 5), .int .u8 (bt d.k 6), .int .u8 (bt d.k 7), .string d.s, .int .i64 d.c, .int .i64 d.q, .int .i64 d.x.ix, .int .i64 d.x.ep, .int .u8 (bt d.x.k 0), .int .u8 (bt d.x.k 1), .int .u8 (bt d.x.k 2), .int .u8 (bt d.x.k 3), .int .u8 (bt d.x.k 4), .int .u8 (bt d.x.k 5), .int .u8 (bt d.x.k 6), .int .u8 (bt d.x.k 7), .int .i64 d.x.v, .string d.x.s, .int .i64 d.x.c, .int .i64 d.x.q] 73) = W2 at *
  have HB := h0.trans (h1.mono h0.size)
  clear h0 h1 hA0
  have hsm := small_any ix ep cp cn cc C dp dn dc W2 (hC.below HB) hcn hdn
  go_enter Tryd.func8, Tryd.ntmps8
  go_wp2_with (refine wpList_load_row rfl 25 _ rfl w.heap.size rfl _ _ _ _ hA Tryd.underlying25 rfl infoTb ?_)
  refine hsm.mono ?_
  rintro e w3 ⟨⟨bb, rfl, hbb⟩, hb⟩
  clear hsm hW2
  replace HB := HB.trans (hb.mono HB.size)
  replace hA := hA.below hb
  replace hK := hK.below hb
  clear hb
  cases bb with
  | false =>
    as_aux_lemma =>
      have hW := awake_any _ (hT.up HB)
      go_wp2_with fail
      refine hW.mono ?_
      rintro e w9 ⟨rfl, hb9⟩
      go_wp2_with fail
      go_ret
      exact ⟨rfl, HB.trans (hb9.mono HB.size)⟩
  | true =>
    as_aux_lemma =>
      obtain ⟨hcn1, hdn1⟩ := hbb rfl
      clear hbb
      have hsh := short2_any (hr.below HB) hnn d
      go_wp2_with (first | refine wpList_load_rowG rfl 73 _ rfl (w.heap.size + 1) rfl _ _ _ _ hK Tryd.underlying73 rfl infoDo ?_ | refine wpList_bslG rfl 26 1 0 _ rfl (.agg #[.int .i64 d.op, .int .i64 d.ep, .int .i64 d.i, .bool d.nr, .int .u8 (bt d.k 0), .int .u8 (bt d.k 1), .int .u8 (bt d.k 2), .int .u8 (bt d.k 3), .int .u8 (bt d.k 4), .int .u8 (bt d.k 5), .int .u8 (bt d.k 6), .int .u8 (bt d.k 7), .string d.s, .int .i64 d.c, .int .i64 d.q, .int .i64 d.x.ix, .int .i64 d.x.ep, .int .u8 (bt d.x.k 0), .int .u8 (bt d.x.k 1), .int .u8 (bt d.x.k 2), .int .u8 (bt d.x.k 3), .int .u8 (bt d.x.k 4), .int .u8 (bt d.x.k 5), .int .u8 (bt d.x.k 6), .int .u8 (bt d.x.k 7), .int .i64 d.x.v, .string d.x.s, .int .i64 d.x.c, .int .i64 d.x.q]) rfl _ _ (bsl_do d _) ?_)
      refine hsh.mono ?_
      rintro e w4 ⟨⟨bb, rfl, hbb⟩, hb⟩
      clear hsh
      replace HB := HB.trans (hb.mono HB.size)
      replace hA := hA.below hb
      replace hK := hK.below hb
      clear hb
      generalize Value.agg #[.int .i64 d.op, .int .i64 d.ep, .int .i64 d.i, .bool d.nr, .int .u8 (bt d.k 0), .int .u8 (bt d.k 1), .int .u8 (bt d.k 2), .int .u8 (bt d.k 3), .int .u8 (bt d.k 4), .int .u8 (bt d.k 5), .int .u8 (bt d.k 6), .int .u8 (bt d.k 7), .string d.s, .int .i64 d.c, .int .i64 d.q, .int .i64 d.x.ix, .int .i64 d.x.ep, .int .u8 (bt d.x.k 0), .int .u8 (bt d.x.k 1), .int .u8 (bt d.x.k 2), .int .u8 (bt d.x.k 3), .int .u8 (bt d.x.k 4), .int .u8 (bt d.x.k 5), .int .u8 (bt d.x.k 6), .int .u8 (bt d.x.k 7), .int .i64 d.x.v, .string d.x.s, .int .i64 d.x.c, .int .i64 d.x.q] = dv1
      cases bb with
      | false =>
        have hW := awake_any _ (hT.up HB)
        go_wp2_with fail
        refine hW.mono ?_
        rintro e w9 ⟨rfl, hb9⟩
        go_wp2_with fail
        go_ret
        exact ⟨rfl, HB.trans (hb9.mono HB.size)⟩
      | true =>
        as_aux_lemma =>
          have hn1 := hbb rfl
          clear hbb
          have hch := check_any ix ep cp cn cc dp dn dc C D w4 (hC.below HB) (hD.below HB) (by omega) hck (hT.up HB)
          have hcz : (chkE ix ep C D = 0) ∨ ¬ (chkE ix ep C D = 0) := Classical.em _
          go_wp2_with (refine wpList_load_rowG rfl 25 _ rfl w.heap.size rfl _ _ _ _ hA Tryd.underlying25 rfl infoTb ?_)
          refine hch.mono ?_
          rintro e w5 ⟨rfl, hb⟩
          clear hch
          replace HB := HB.trans (hb.mono HB.size)
          replace hA := hA.below hb
          replace hK := hK.below hb
          clear hb
          rcases hcz with hcz | hcz
          · as_aux_lemma =>
              have hmd := madeX (fun _ => 0) 1 ix ep cp cn cc dp dn dc C D w5 (hC.below HB) (hD.below HB) (by omega) hck (hT.up HB) (by omega) hcz p n c ds (hr.below HB) hds hnn
              have hkn := (frS_gd hcz).runs ds
              have hkl5 : w.heap.size + 1 < w5.heap.size := At.lt hK
              rw [hcz]
              generalize (frS ix ep C D).runs ds = s at *
              go_wp2_with (refine wpList_load_row rfl 25 _ rfl w.heap.size rfl _ _ _ _ hA Tryd.underlying25 rfl infoTb ?_)
              refine hmd.mono ?_
              rintro e w6 ⟨g, rfl, hb, hst, hS⟩
              clear hmd hcz
              have hM := (MO.none w w5 HB).step (i := 1) (by decide) hst
              replace HB := HB.trans (hb.mono HB.size)
              replace hA := hA.below hb
              replace hK := hK.below hb
              clear hb hst
              have hkz : mkO (fun _ => 0) w5 w6 1 (w.heap.size + 1) = 0 := by rw [mkO_old hkl5]
              clear hkl5
              generalize (mkO (fun _ => 0) w5 w6 1) = o1 at *
              clear hA hC hD hck hcn hdn hcn1 hdn1 hn1 hr hds hnn
              have hdk := hd.1
              have hdsz := hd.2.1
              have hNx := nextX hS d.ep d.k hdk d.s hdsz d.c d.q (hT.up HB)
              have hbig := hS.inv.big
              have htop := hS.inv.top d.k
              have hIN : (⟨s.low, s.tail, s.com⟩ : Sh).inv := hS.inv
              have q0 := At.cell hK 4
              have q1 := At.cell hK 5
              have q2 := At.cell hK 6
              have q3 := At.cell hK 7
              have q4 := At.cell hK 8
              have q5 := At.cell hK 9
              have q6 := At.cell hK 10
              have q7 := At.cell hK 11
              have q8 := At.cell hK 12
              have q9 := At.cell hK 13
              have q10 := At.cell hK 14
              simp only [List.getElem?_toArray, List.getElem?_cons_zero, List.getElem?_cons_succ] at q0 q1 q2 q3 q4 q5 q6 q7 q8 q9 q10
              have p1 := At.cell hK 1
              simp only [List.getElem?_toArray, List.getElem?_cons_zero, List.getElem?_cons_succ] at p1
              by_cases hE : s.nextE (s.nx d.ep d.k d.s d.c d.q) = 0
              · as_aux_lemma =>
                  have hst : (s.low.adds s.tail).stands (s.nx d.ep d.k d.s d.c d.q) = 0 := by
                    unfold Sh.nextE at hE
                    split at hE
                    · rename_i hne; exact absurd hE hne
                    · rename_i hne; exact Classical.byContradiction hne
                  have hnr : s.nextR (s.nx d.ep d.k d.s d.c d.q) = s.nx d.ep d.k d.s d.c d.q := if_pos hE
                  rw [hE, hnr] at hNx
                  have HNX : Hid (s.nx d.ep d.k d.s d.c d.q = ⟨s.last + 1, d.ep, d.k, ((lookC (s.low.adds s.tail).cs d.k).getD .z0).v + 1, d.s, d.c, d.q⟩) := rfl
                  rw [HNX.out] at hNx hst
                  clear hE hnr HNX
                  have hT0 := fun V (h : SX o1 1 V g s) => topX h d.k hdk
                  have hT9 : ∀ V (o : Nat → Nat) (h : SX o 1 V g ⟨s.low, s.tail ++ [⟨s.last + 1, d.ep, d.k, ((lookC (s.low.adds s.tail).cs d.k).getD .z0).v + 1, d.s, d.c, d.q⟩], s.com⟩), Calls Tryd.prog 29 #[.pointer (some ⟨g, 0, none⟩), .agg #[.int .u8 (bt (d.k) 0), .int .u8 (bt (d.k) 1), .int .u8 (bt (d.k) 2), .int .u8 (bt (d.k) 3), .int .u8 (bt (d.k) 4), .int .u8 (bt (d.k) 5), .int .u8 (bt (d.k) 6), .int .u8 (bt (d.k) 7)]] V fun e w' => e = .returned (.agg #[.int .u8 (bt (Ce.mk d.k (((lookC (s.low.adds s.tail).cs d.k).getD .z0).v + 1) d.s).k 0), .int .u8 (bt (Ce.mk d.k (((lookC (s.low.adds s.tail).cs d.k).getD .z0).v + 1) d.s).k 1), .int .u8 (bt (Ce.mk d.k (((lookC (s.low.adds s.tail).cs d.k).getD .z0).v + 1) d.s).k 2), .int .u8 (bt (Ce.mk d.k (((lookC (s.low.adds s.tail).cs d.k).getD .z0).v + 1) d.s).k 3), .int .u8 (bt (Ce.mk d.k (((lookC (s.low.adds s.tail).cs d.k).getD .z0).v + 1) d.s).k 4), .int .u8 (bt (Ce.mk d.k (((lookC (s.low.adds s.tail).cs d.k).getD .z0).v + 1) d.s).k 5), .int .u8 (bt (Ce.mk d.k (((lookC (s.low.adds s.tail).cs d.k).getD .z0).v + 1) d.s).k 6), .int .u8 (bt (Ce.mk d.k (((lookC (s.low.adds s.tail).cs d.k).getD .z0).v + 1) d.s).k 7), .int .i64 (Ce.mk d.k (((lookC (s.low.adds s.tail).cs d.k).getD .z0).v + 1) d.s).v, .string (Ce.mk d.k (((lookC (s.low.adds s.tail).cs d.k).getD .z0).v + 1) d.s).s]) ∧ Below V.heap.size V w' := fun V o h => by
                    have h1 := topX h d.k hdk
                    rw [show lookC (s.low.adds (s.tail ++ [⟨s.last + 1, d.ep, d.k, ((lookC (s.low.adds s.tail).cs d.k).getD .z0).v + 1, d.s, d.c, d.q⟩])).cs d.k = some ⟨d.k, ((lookC (s.low.adds s.tail).cs d.k).getD .z0).v + 1, d.s⟩ from by rw [adds_app]; exact lookC_put _ ⟨d.k, ((lookC (s.low.adds s.tail).cs d.k).getD .z0).v + 1, d.s⟩] at h1
                    exact h1
                  generalize (lookC (s.low.adds s.tail).cs d.k).getD .z0 = ctop at *
                  obtain ⟨tk, tv, ts⟩ := ctop
                  dsimp only at *
                  have hf1 : ∀ W, (Instr.field 53 (.agg #[.int .u8 (bt (Ce.mk tk tv ts).k 0), .int .u8 (bt (Ce.mk tk tv ts).k 1), .int .u8 (bt (Ce.mk tk tv ts).k 2), .int .u8 (bt (Ce.mk tk tv ts).k 3), .int .u8 (bt (Ce.mk tk tv ts).k 4), .int .u8 (bt (Ce.mk tk tv ts).k 5), .int .u8 (bt (Ce.mk tk tv ts).k 6), .int .u8 (bt (Ce.mk tk tv ts).k 7), .int .i64 (Ce.mk tk tv ts).v, .string (Ce.mk tk tv ts).s]) 1).run Tryd.prog W = .ok (.int .i64 tv) W := fun W => field_c1 _ W
                  have hF2 : ∀ W, (Instr.field 53 (.agg #[.int .u8 (bt (Ce.mk d.k (tv + 1) d.s).k 0), .int .u8 (bt (Ce.mk d.k (tv + 1) d.s).k 1), .int .u8 (bt (Ce.mk d.k (tv + 1) d.s).k 2), .int .u8 (bt (Ce.mk d.k (tv + 1) d.s).k 3), .int .u8 (bt (Ce.mk d.k (tv + 1) d.s).k 4), .int .u8 (bt (Ce.mk d.k (tv + 1) d.s).k 5), .int .u8 (bt (Ce.mk d.k (tv + 1) d.s).k 6), .int .u8 (bt (Ce.mk d.k (tv + 1) d.s).k 7), .int .i64 (Ce.mk d.k (tv + 1) d.s).v, .string (Ce.mk d.k (tv + 1) d.s).s]) 2).run Tryd.prog W = .ok (.string d.s) W := fun W => field_c2 _ W
                  dsimp only at hf1 hF2
                  generalize Value.agg #[.int .u8 (bt (Ce.mk tk tv ts).k 0), .int .u8 (bt (Ce.mk tk tv ts).k 1), .int .u8 (bt (Ce.mk tk tv ts).k 2), .int .u8 (bt (Ce.mk tk tv ts).k 3), .int .u8 (bt (Ce.mk tk tv ts).k 4), .int .u8 (bt (Ce.mk tk tv ts).k 5), .int .u8 (bt (Ce.mk tk tv ts).k 6), .int .u8 (bt (Ce.mk tk tv ts).k 7), .int .i64 (Ce.mk tk tv ts).v, .string (Ce.mk tk tv ts).s] = tv0 at hT0 hf1
                  generalize Value.agg #[.int .u8 (bt (Ce.mk d.k (tv + 1) d.s).k 0), .int .u8 (bt (Ce.mk d.k (tv + 1) d.s).k 1), .int .u8 (bt (Ce.mk d.k (tv + 1) d.s).k 2), .int .u8 (bt (Ce.mk d.k (tv + 1) d.s).k 3), .int .u8 (bt (Ce.mk d.k (tv + 1) d.s).k 4), .int .u8 (bt (Ce.mk d.k (tv + 1) d.s).k 5), .int .u8 (bt (Ce.mk d.k (tv + 1) d.s).k 6), .int .u8 (bt (Ce.mk d.k (tv + 1) d.s).k 7), .int .i64 (Ce.mk d.k (tv + 1) d.s).v, .string (Ce.mk d.k (tv + 1) d.s).s] = tvx at hT9 hF2
                  have HF2 : Hid (∀ W, (Instr.field 53 tvx 2).run Tryd.prog W = .ok (.string d.s) W) := hF2
                  clear hF2
                  go_wp2_with fail
                  refine hNx.mono ?_
                  rintro e w7 ⟨rfl, hb⟩
                  clear hNx q0 q1 q2 q3 q4 q5 q6 q7 q8 q9 q10 p1 HB
                  replace hM := hM.below hb
                  replace hK := hK.below hb
                  replace hS := hS.below hb
                  clear hb
                  have hX := At.new 64 w7 #[.int .i64 (Rc.mk (s.last + 1) d.ep d.k (tv + 1) d.s d.c d.q).ix, .int .i64 (Rc.mk (s.last + 1) d.ep d.k (tv + 1) d.s d.c d.q).ep, .int .u8 (bt (Rc.mk (s.last + 1) d.ep d.k (tv + 1) d.s d.c d.q).k 0), .int .u8 (bt (Rc.mk (s.last + 1) d.ep d.k (tv + 1) d.s d.c d.q).k 1), .int .u8 (bt (Rc.mk (s.last + 1) d.ep d.k (tv + 1) d.s d.c d.q).k 2), .int .u8 (bt (Rc.mk (s.last + 1) d.ep d.k (tv + 1) d.s d.c d.q).k 3), .int .u8 (bt (Rc.mk (s.last + 1) d.ep d.k (tv + 1) d.s d.c d.q).k 4), .int .u8 (bt (Rc.mk (s.last + 1) d.ep d.k (tv + 1) d.s d.c d.q).k 5), .int .u8 (bt (Rc.mk (s.last + 1) d.ep d.k (tv + 1) d.s d.c d.q).k 6), .int .u8 (bt (Rc.mk (s.last + 1) d.ep d.k (tv + 1) d.s d.c d.q).k 7), .int .i64 (Rc.mk (s.last + 1) d.ep d.k (tv + 1) d.s d.c d.q).v, .string (Rc.mk (s.last + 1) d.ep d.k (tv + 1) d.s d.c d.q).s, .int .i64 (Rc.mk (s.last + 1) d.ep d.k (tv + 1) d.s d.c d.q).c, .int .i64 (Rc.mk (s.last + 1) d.ep d.k (tv + 1) d.s d.c d.q).q]
                  have hb := below_alloc' w7 (.cells #[.int .i64 (Rc.mk (s.last + 1) d.ep d.k (tv + 1) d.s d.c d.q).ix, .int .i64 (Rc.mk (s.last + 1) d.ep d.k (tv + 1) d.s d.c d.q).ep, .int .u8 (bt (Rc.mk (s.last + 1) d.ep d.k (tv + 1) d.s d.c d.q).k 0), .int .u8 (bt (Rc.mk (s.last + 1) d.ep d.k (tv + 1) d.s d.c d.q).k 1), .int .u8 (bt (Rc.mk (s.last + 1) d.ep d.k (tv + 1) d.s d.c d.q).k 2), .int .u8 (bt (Rc.mk (s.last + 1) d.ep d.k (tv + 1) d.s d.c d.q).k 3), .int .u8 (bt (Rc.mk (s.last + 1) d.ep d.k (tv + 1) d.s d.c d.q).k 4), .int .u8 (bt (Rc.mk (s.last + 1) d.ep d.k (tv + 1) d.s d.c d.q).k 5), .int .u8 (bt (Rc.mk (s.last + 1) d.ep d.k (tv + 1) d.s d.c d.q).k 6), .int .u8 (bt (Rc.mk (s.last + 1) d.ep d.k (tv + 1) d.s d.c d.q).k 7), .int .i64 (Rc.mk (s.last + 1) d.ep d.k (tv + 1) d.s d.c d.q).v, .string (Rc.mk (s.last + 1) d.ep d.k (tv + 1) d.s d.c d.q).s, .int .i64 (Rc.mk (s.last + 1) d.ep d.k (tv + 1) d.s d.c d.q).c, .int .i64 (Rc.mk (s.last + 1) d.ep d.k (tv + 1) d.s d.c d.q).q] 64)
                  have hx0 : o1 w7.heap.size = 0 := Classical.byContradiction fun e => by have := (hM.pos _ e).2; omega
                  dsimp only at hX hb
                  replace hM := hM.below hb
                  replace hK := hK.below hb
                  replace hS := hS.below hb
                  clear hb
                  have hW := hT0 _ hS
                  clear hT0
                  have q0 := At.cell hK 4
                  have q1 := At.cell hK 5
                  have q2 := At.cell hK 6
                  have q3 := At.cell hK 7
                  have q4 := At.cell hK 8
                  have q5 := At.cell hK 9
                  have q6 := At.cell hK 10
                  have q7 := At.cell hK 11
                  simp only [List.getElem?_toArray, List.getElem?_cons_zero, List.getElem?_cons_succ] at q0 q1 q2 q3 q4 q5 q6 q7
                  go_wp2_with fail
                  generalize w7.alloc (.cells #[.int .i64 (s.last + 1), .int .i64 d.ep, .int .u8 (bt (d.k) 0), .int .u8 (bt (d.k) 1), .int .u8 (bt (d.k) 2), .int .u8 (bt (d.k) 3), .int .u8 (bt (d.k) 4), .int .u8 (bt (d.k) 5), .int .u8 (bt (d.k) 6), .int .u8 (bt (d.k) 7), .int .i64 (tv + 1), .string d.s, .int .i64 d.c, .int .i64 d.q] 64) = v7 at *
                  refine hW.mono ?_
                  rintro e w8 ⟨rfl, hb⟩
                  replace hM := hM.below hb
                  replace hK := hK.below hb
                  replace hS := hS.below hb
                  replace hX := hX.below hb
                  clear hb hW q0 q1 q2 q3 q4 q5 q6 q7
                  have hW := lowX hS
                  go_wp2_with fail
                  refine hW.mono ?_
                  rintro e w9 ⟨rfl, hb⟩
                  replace hM := hM.below hb
                  replace hK := hK.below hb
                  replace hS := hS.below hb
                  replace hX := hX.below hb
                  clear hb hW hf1
                  have hW := behX hS rfl
                  go_wp2_with fail
                  refine hW.mono ?_
                  rintro e w10 ⟨p1, c1, rfl, _, hb⟩
                  replace hM := hM.below hb
                  replace hK := hK.below hb
                  replace hS := hS.below hb
                  replace hX := hX.below hb
                  clear hb hW
                  have hgx : w7.heap.size < w10.heap.size := At.lt hX
                  generalize w7.heap.size = gx at *
                  have hW := addX hS (Rc.mk (s.last + 1) d.ep d.k (tv + 1) d.s d.c d.q) hdk hdsz (hT.up hM.bel)
                  go_wp2_with (refine wpList_load_row rfl 64 _ rfl gx rfl _ _ _ _ hX Tryd.underlying64 rfl infoRc ?_)
                  refine hW.mono ?_
                  rintro e w11 ⟨rfl, hst1, hS1⟩
                  clear hW
                  replace hK := hK.other hst1 hkz (by decide)
                  replace hX := hX.other hst1 hx0 (by decide)
                  replace hM := hM.step (i := 1) (by decide) hst1
                  clear hst1 hkz hx0 hgx
                  generalize (mkO o1 w10 w11 1) = o2 at *
                  by_cases hfull : 24 ≤ s.tail.length
                  · as_aux_lemma =>
                      rw [(addE_full hst hfull).1]
                      have hfi : (24 : Int) ≤ (s.tail.length : Int) := by omega
                      have hW := awake_any _ (hT.up hM.bel)
                      clear hS1 hX hK hS hT9 HF2
                      go_wp2_with fail
                      refine hW.mono ?_
                      rintro e w12 ⟨rfl, hb⟩
                      go_wp2_with fail
                      go_ret
                      exact ⟨rfl, hM.bel.trans (hb.mono hM.bel.size)⟩
                  · as_aux_lemma =>
                      have hfi : ¬ (24 : Int) ≤ (s.tail.length : Int) := by omega
                      rw [(addE_of hst (by omega)).1]
                      rw [(addE_of hst (by omega)).2] at hS1
                      have hW := knownX hS1 d.c d.q
                      have hknw : (⟨s.low, s.tail ++ [(Rc.mk (s.last + 1) d.ep d.k (tv + 1) d.s d.c d.q)], s.com⟩ : Sh).knw d.c d.q = (tv + 1, false) := by
                        unfold Sh.knw
                        rw [if_pos (stands_ok hst).2.2.2.2.2.1]
                        have h1 := knw_last (com := s.com) hkn.ok hIN.ok hst (s.low.d d.c.toNat)
                        refine h1.trans ?_
                        have h2 : s.com ≤ s.low.ix + (s.tail.length : Nat) := hIN.hi
                        rw [show decide (s.last + 1 ≤ s.com) = false from decide_eq_false (by unfold Sh.last; omega)]
                      rw [hknw] at hW
                      clear hknw hst hS
                      have p13 := At.cell hK 13
                      have p14 := At.cell hK 14
                      simp only [List.getElem?_toArray, List.getElem?_cons_zero, List.getElem?_cons_succ] at p13 p14
                      go_wp2_with fail
                      refine hW.mono ?_
                      rintro e w12 ⟨rfl, hb⟩
                      clear hW p13 p14
                      replace hM := hM.below hb
                      replace hK := hK.below hb
                      replace hX := hX.below hb
                      replace hS1 := hS1.below hb
                      clear hb
                      go_wp2_with fail
                      have hT1 := fun W (h : Bl w12 W) => hT9 W o2 (hS1.below h)
                      have hF2 := HF2.out
                      have hTV := hT.up hM.bel
                      clear hT9
                      have hv2 : IntKind.i64.wrap (tv + 1) = tv + 1 := by rw [IntKind.wrap_i64]; omega
                      have hS0 : Bl w12 w12.drew := (Below.refl _ _).drew
                      refine wp_region_det [0, 1, 2, 3, 4, 5, 6, 7, 8, 9, 10, 11, 12, 13, 14, 15, 16, 17, 18, 19, 20, 21, 22, 23, 24, 25, 26, 27, 28, 29, 30, 31] (Bl w12) (Bl w12) (by kernel_rfl) hS0 ?_
                      refine wpDet_take ?vW0 (Bl.stays w12) (fun _ h => h) (i := 0) rfl (by kernel_rfl) (by kernel_rfl) (by kernel_rfl) (by kernel_rfl) (fun _ _ _ h => h) (Gives.value (by rfl) ?yW0) ?rW0
                      case yW0 => (intro w' hSw; (try dsimp only at hSw); go_simp; try with_reducible rfl)
                      (try simp only [Act.put, List.getElem_toArray, List.getElem_cons_zero, List.getElem_cons_succ, List.setIfInBounds_toArray, List.set_cons_zero, List.set_cons_succ])
                      refine wpDet_take ?vW1 (Bl.stays w12) (fun _ h => h) (i := 1) rfl (by kernel_rfl) (by kernel_rfl) (by kernel_rfl) (by kernel_rfl) (fun _ _ _ h => h) (Gives.value (by rfl) ?yW1) ?rW1
                      case yW1 => (intro w' hSw; (try dsimp only at hSw); go_simp; try with_reducible rfl)
                      (try simp only [Act.put, List.getElem_toArray, List.getElem_cons_zero, List.getElem_cons_succ, List.setIfInBounds_toArray, List.set_cons_zero, List.set_cons_succ])
                      refine wpDet_take ?vW2 (Bl.stays w12) (fun _ h => h) (i := 2) rfl (by kernel_rfl) (by kernel_rfl) (by kernel_rfl) (by kernel_rfl) (fun _ _ _ h => h) (Gives.value (by rfl) ?yW2) ?rW2
                      case yW2 => (intro w' hSw; (try dsimp only at hSw); go_simp; try with_reducible rfl)
                      (try simp only [Act.put, List.getElem_toArray, List.getElem_cons_zero, List.getElem_cons_succ, List.setIfInBounds_toArray, List.set_cons_zero, List.set_cons_succ])
                      refine wpDet_take ?vW3 (Bl.stays w12) (fun _ h => h) (i := 3) rfl (by kernel_rfl) (by kernel_rfl) (by kernel_rfl) (by kernel_rfl) (fun _ _ _ h => h) (Gives.value (by rfl) ?yW3) ?rW3
                      case yW3 => (intro w' hSw; (try dsimp only at hSw); go_simp; try with_reducible rfl)
                      (try simp only [Act.put, List.getElem_toArray, List.getElem_cons_zero, List.getElem_cons_succ, List.setIfInBounds_toArray, List.set_cons_zero, List.set_cons_succ])
                      refine wpDet_take ?vW4 (Bl.stays w12) (fun _ h => h) (i := 4) rfl (by kernel_rfl) (by kernel_rfl) (by kernel_rfl) (by kernel_rfl) (fun _ _ _ h => h) (Gives.value (by rfl) ?yW4) ?rW4
                      case yW4 => (intro w' hSw; (try dsimp only at hSw); go_simp; try with_reducible rfl)
                      (try simp only [Act.put, List.getElem_toArray, List.getElem_cons_zero, List.getElem_cons_succ, List.setIfInBounds_toArray, List.set_cons_zero, List.set_cons_succ])
                      refine wpDet_take (.int .i64 (tv + 1)) (Bl.stays w12) (fun _ h => h) (i := 5) rfl (by kernel_rfl) (by kernel_rfl) (by kernel_rfl) (by kernel_rfl) (fun _ _ _ h => h) (Gives.value (by rfl) ?yW5) ?rW5
                      case yW5 => (intro w' hSw; (try dsimp only at hSw); go_simp; try exact hv2)
                      (try simp only [Act.put, List.getElem_toArray, List.getElem_cons_zero, List.getElem_cons_succ, List.setIfInBounds_toArray, List.set_cons_zero, List.set_cons_succ])
                      refine wpDet_take ?vW6 (Bl.stays w12) (fun _ h => h) (i := 6) rfl (by kernel_rfl) (by kernel_rfl) (by kernel_rfl) (by kernel_rfl) (fun _ _ _ h => h) (Gives.value (by rfl) ?yW6) ?rW6
                      case yW6 => (intro w' hSw; (try dsimp only at hSw); go_simp; try with_reducible rfl)
                      (try simp only [Act.put, List.getElem_toArray, List.getElem_cons_zero, List.getElem_cons_succ, List.setIfInBounds_toArray, List.set_cons_zero, List.set_cons_succ])
                      refine wpDet_take ?vW7 (Bl.stays w12) (fun _ h => h) (i := 7) rfl (by kernel_rfl) (by kernel_rfl) (by kernel_rfl) (by kernel_rfl) (fun _ _ _ h => h) (Gives.value (by rfl) ?yW7) ?rW7
                      case yW7 => (intro w' hSw; (try dsimp only at hSw); go_simp; try with_reducible rfl)
                      (try simp only [Act.put, List.getElem_toArray, List.getElem_cons_zero, List.getElem_cons_succ, List.setIfInBounds_toArray, List.set_cons_zero, List.set_cons_succ])
                      refine wpDet_take ?vW8 (Bl.stays w12) (fun _ h => h) (i := 8) rfl (by kernel_rfl) (by kernel_rfl) (by kernel_rfl) (by kernel_rfl) (fun _ _ _ h => h) (Gives.value (by rfl) ?yW8) ?rW8
                      case yW8 => (intro w' hSw; (try dsimp only at hSw); go_simp; try with_reducible rfl)
                      (try simp only [Act.put, List.getElem_toArray, List.getElem_cons_zero, List.getElem_cons_succ, List.setIfInBounds_toArray, List.set_cons_zero, List.set_cons_succ])
                      refine wpDet_take ?vW9 (Bl.stays w12) (fun _ h => h) (i := 9) rfl (by kernel_rfl) (by kernel_rfl) (by kernel_rfl) (by kernel_rfl) (fun _ _ _ h => h) (Gives.value (by rfl) ?yW9) ?rW9
                      case yW9 => (intro w' hSw; (try dsimp only at hSw); go_simp; try with_reducible rfl)
                      (try simp only [Act.put, List.getElem_toArray, List.getElem_cons_zero, List.getElem_cons_succ, List.setIfInBounds_toArray, List.set_cons_zero, List.set_cons_succ])
                      refine wpDet_take ?vW10 (Bl.stays w12) (fun _ h => h) (i := 10) rfl (by kernel_rfl) (by kernel_rfl) (by kernel_rfl) (by kernel_rfl) (fun _ _ _ h => h) (Gives.value (by rfl) ?yW10) ?rW10
                      case yW10 => (intro w' hSw; have y10 := At.cell (At.below hX (Bl.out hSw)) 10; (try simp only [List.getElem?_toArray, List.getElem?_cons_zero, List.getElem?_cons_succ] at y10); (try dsimp only at hSw); go_simp; try with_reducible rfl)
                      (try simp only [Act.put, List.getElem_toArray, List.getElem_cons_zero, List.getElem_cons_succ, List.setIfInBounds_toArray, List.set_cons_zero, List.set_cons_succ])
                      refine wpDet_take ?vW11 (Bl.stays w12) (fun _ h => h) (i := 11) rfl (by kernel_rfl) (by kernel_rfl) (by kernel_rfl) (by kernel_rfl) (fun _ _ _ h => h) (Gives.value (by rfl) ?yW11) ?rW11
                      case yW11 => (intro w' hSw; (try dsimp only at hSw); go_simp; try with_reducible rfl)
                      (try simp only [Act.put, List.getElem_toArray, List.getElem_cons_zero, List.getElem_cons_succ, List.setIfInBounds_toArray, List.set_cons_zero, List.set_cons_succ])
                      refine wpDet_take ?vW12 (Bl.stays w12) (fun _ h => h) (i := 12) rfl (by kernel_rfl) (by kernel_rfl) (by kernel_rfl) (by kernel_rfl) (fun _ _ _ h => h) (Gives.value (by rfl) ?yW12) ?rW12
                      case yW12 => (intro w' hSw; (try dsimp only at hSw); go_simp; try with_reducible rfl)
                      (try simp only [Act.put, List.getElem_toArray, List.getElem_cons_zero, List.getElem_cons_succ, List.setIfInBounds_toArray, List.set_cons_zero, List.set_cons_succ])
                      refine wpDet_take ?vW13 (Bl.stays w12) (fun _ h => h) (i := 13) rfl (by kernel_rfl) (by kernel_rfl) (by kernel_rfl) (by kernel_rfl) (fun _ _ _ h => h) (Gives.value (by rfl) ?yW13) ?rW13
                      case yW13 => (intro w' hSw; (try dsimp only at hSw); go_simp; try with_reducible rfl)
                      (try simp only [Act.put, List.getElem_toArray, List.getElem_cons_zero, List.getElem_cons_succ, List.setIfInBounds_toArray, List.set_cons_zero, List.set_cons_succ])
                      refine wpDet_take ?vW14 (Bl.stays w12) (fun _ h => h) (i := 14) rfl (by kernel_rfl) (by kernel_rfl) (by kernel_rfl) (by kernel_rfl) (fun _ _ _ h => h) (Gives.value (by rfl) ?yW14) ?rW14
                      case yW14 => (intro w' hSw; (try dsimp only at hSw); go_simp; try with_reducible rfl)
                      (try simp only [Act.put, List.getElem_toArray, List.getElem_cons_zero, List.getElem_cons_succ, List.setIfInBounds_toArray, List.set_cons_zero, List.set_cons_succ])
                      refine wpDet_take ?vW15 (Bl.stays w12) (fun _ h => h) (i := 15) rfl (by kernel_rfl) (by kernel_rfl) (by kernel_rfl) (by kernel_rfl) (fun _ _ _ h => h) (Gives.value (by rfl) ?yW15) ?rW15
                      case yW15 => (intro w' hSw; (try dsimp only at hSw); go_simp; try with_reducible rfl)
                      (try simp only [Act.put, List.getElem_toArray, List.getElem_cons_zero, List.getElem_cons_succ, List.setIfInBounds_toArray, List.set_cons_zero, List.set_cons_succ])
                      refine wpDet_take ?vW16 (Bl.stays w12) (fun _ h => h) (i := 16) rfl (by kernel_rfl) (by kernel_rfl) (by kernel_rfl) (by kernel_rfl) (fun _ _ _ h => h) (Gives.value (by rfl) ?yW16) ?rW16
                      case yW16 => (intro w' hSw; (try dsimp only at hSw); go_simp; try with_reducible rfl)
                      (try simp only [Act.put, List.getElem_toArray, List.getElem_cons_zero, List.getElem_cons_succ, List.setIfInBounds_toArray, List.set_cons_zero, List.set_cons_succ])
                      refine wpDet_take ?vW17 (Bl.stays w12) (fun _ h => h) (i := 17) rfl (by kernel_rfl) (by kernel_rfl) (by kernel_rfl) (by kernel_rfl) (fun _ _ _ h => h) (Gives.value (by rfl) ?yW17) ?rW17
                      case yW17 => (intro w' hSw; (try dsimp only at hSw); go_simp; try with_reducible rfl)
                      (try simp only [Act.put, List.getElem_toArray, List.getElem_cons_zero, List.getElem_cons_succ, List.setIfInBounds_toArray, List.set_cons_zero, List.set_cons_succ])
                      refine wpDet_take ?vW18 (Bl.stays w12) (fun _ h => h) (i := 18) rfl (by kernel_rfl) (by kernel_rfl) (by kernel_rfl) (by kernel_rfl) (fun _ _ _ h => h) (Gives.value (by rfl) ?yW18) ?rW18
                      case yW18 => (intro w' hSw; (try dsimp only at hSw); go_simp; try with_reducible rfl)
                      (try simp only [Act.put, List.getElem_toArray, List.getElem_cons_zero, List.getElem_cons_succ, List.setIfInBounds_toArray, List.set_cons_zero, List.set_cons_succ])
                      refine wpDet_take ?vW19 (Bl.stays w12) (fun _ h => h) (i := 19) rfl (by kernel_rfl) (by kernel_rfl) (by kernel_rfl) (by kernel_rfl) (fun _ _ _ h => h) (Gives.value (by rfl) ?yW19) ?rW19
                      case yW19 => (intro w' hSw; (try dsimp only at hSw); go_simp; try with_reducible rfl)
                      (try simp only [Act.put, List.getElem_toArray, List.getElem_cons_zero, List.getElem_cons_succ, List.setIfInBounds_toArray, List.set_cons_zero, List.set_cons_succ])
                      refine wpDet_take ?vW20 (Bl.stays w12) (fun _ h => h) (i := 20) rfl (by kernel_rfl) (by kernel_rfl) (by kernel_rfl) (by kernel_rfl) (fun _ _ _ h => h) (Gives.value (by rfl) ?yW20) ?rW20
                      case yW20 => (intro w' hSw; (try dsimp only at hSw); go_simp; try with_reducible rfl)
                      (try simp only [Act.put, List.getElem_toArray, List.getElem_cons_zero, List.getElem_cons_succ, List.setIfInBounds_toArray, List.set_cons_zero, List.set_cons_succ])
                      refine wpDet_take ?vW21 (Bl.stays w12) (fun _ h => h) (i := 21) rfl (by kernel_rfl) (by kernel_rfl) (by kernel_rfl) (by kernel_rfl) (fun _ _ _ h => h) (Gives.value (by rfl) ?yW21) ?rW21
                      case yW21 => (intro w' hSw; have q4 := At.cell (At.below hK (Bl.out hSw)) 4; have q5 := At.cell (At.below hK (Bl.out hSw)) 5; have q6 := At.cell (At.below hK (Bl.out hSw)) 6; have q7 := At.cell (At.below hK (Bl.out hSw)) 7; have q8 := At.cell (At.below hK (Bl.out hSw)) 8; have q9 := At.cell (At.below hK (Bl.out hSw)) 9; have q10 := At.cell (At.below hK (Bl.out hSw)) 10; have q11 := At.cell (At.below hK (Bl.out hSw)) 11; (try simp only [List.getElem?_toArray, List.getElem?_cons_zero, List.getElem?_cons_succ] at q4 q5 q6 q7 q8 q9 q10 q11); (try dsimp only at hSw); go_simp; try with_reducible rfl)
                      (try simp only [Act.put, List.getElem_toArray, List.getElem_cons_zero, List.getElem_cons_succ, List.setIfInBounds_toArray, List.set_cons_zero, List.set_cons_succ])
                      refine wpDet_take tvx (Bl.stays w12) (fun _ h => h) (i := 22) rfl (by kernel_rfl) (by kernel_rfl) (by kernel_rfl) (by kernel_rfl) (fun _ _ _ h => h) (Gives.call 29 #[.pointer (some ⟨g, 0, none⟩), .agg #[.int .u8 (bt (d.k) 0), .int .u8 (bt (d.k) 1), .int .u8 (bt (d.k) 2), .int .u8 (bt (d.k) 3), .int .u8 (bt (d.k) 4), .int .u8 (bt (d.k) 5), .int .u8 (bt (d.k) 6), .int .u8 (bt (d.k) 7)]] (by rfl) (fun _ => by first | (go_simp; done) | (go_simp; rfl)) (fun W hW => (hT1 _ hW))) ?_
                      (try simp only [Act.put, List.getElem_toArray, List.getElem_cons_zero, List.getElem_cons_succ, List.setIfInBounds_toArray, List.set_cons_zero, List.set_cons_succ])
                      refine wpDet_take ?vW23 (Bl.stays w12) (fun _ h => h) (i := 23) rfl (by kernel_rfl) (by kernel_rfl) (by kernel_rfl) (by kernel_rfl) (fun _ _ _ h => h) (Gives.value (by rfl) ?yW23) ?rW23
                      case yW23 => (intro w' hSw; have hf := hF2 w'; (try dsimp only at hSw); go_simp; try with_reducible rfl)
                      (try simp only [Act.put, List.getElem_toArray, List.getElem_cons_zero, List.getElem_cons_succ, List.setIfInBounds_toArray, List.set_cons_zero, List.set_cons_succ])
                      refine wpDet_take ?vW24 (Bl.stays w12) (fun _ h => h) (i := 24) rfl (by kernel_rfl) (by kernel_rfl) (by kernel_rfl) (by kernel_rfl) (fun _ _ _ h => h) (Gives.value (by rfl) ?yW24) ?rW24
                      case yW24 => (intro w' hSw; (try dsimp only at hSw); go_simp; try with_reducible rfl)
                      (try simp only [Act.put, List.getElem_toArray, List.getElem_cons_zero, List.getElem_cons_succ, List.setIfInBounds_toArray, List.set_cons_zero, List.set_cons_succ])
                      refine wpDet_take ?vW25 (Bl.stays w12) (fun _ h => h) (i := 25) rfl (by kernel_rfl) (by kernel_rfl) (by kernel_rfl) (by kernel_rfl) (fun _ _ _ h => h) (Gives.value (by rfl) ?yW25) ?rW25
                      case yW25 => (intro w' hSw; have q12 := At.cell (At.below hK (Bl.out hSw)) 12; (try simp only [List.getElem?_toArray, List.getElem?_cons_zero, List.getElem?_cons_succ] at q12); (try dsimp only at hSw); go_simp; try with_reducible rfl)
                      (try simp only [Act.put, List.getElem_toArray, List.getElem_cons_zero, List.getElem_cons_succ, List.setIfInBounds_toArray, List.set_cons_zero, List.set_cons_succ])
                      refine wpDet_take ?vW26 (Bl.stays w12) (fun _ h => h) (i := 26) rfl (by kernel_rfl) (by kernel_rfl) (by kernel_rfl) (by kernel_rfl) (fun _ _ _ h => h) (Gives.value (by rfl) ?yW26) ?rW26
                      case yW26 => (intro w' hSw; (try dsimp only at hSw); go_simp; try with_reducible rfl)
                      (try simp only [Act.put, List.getElem_toArray, List.getElem_cons_zero, List.getElem_cons_succ, List.setIfInBounds_toArray, List.set_cons_zero, List.set_cons_succ])
                      refine wpDet_take ?vW27 (Bl.stays w12) (fun _ h => h) (i := 27) rfl (by kernel_rfl) (by kernel_rfl) (by kernel_rfl) (by kernel_rfl) (fun _ _ _ h => h) (Gives.value (by rfl) ?yW27) ?rW27
                      case yW27 => (intro w' hSw; (try dsimp only at hSw); go_simp; try with_reducible rfl)
                      (try simp only [Act.put, List.getElem_toArray, List.getElem_cons_zero, List.getElem_cons_succ, List.setIfInBounds_toArray, List.set_cons_zero, List.set_cons_succ])
                      refine wpDet_take ?vW28 (Bl.stays w12) (fun _ h => h) (i := 28) rfl (by kernel_rfl) (by kernel_rfl) (by kernel_rfl) (by kernel_rfl) (fun _ _ _ h => h) (Gives.value (by rfl) ?yW28) ?rW28
                      case yW28 => (intro w' hSw; (try dsimp only at hSw); go_simp; try with_reducible rfl)
                      (try simp only [Act.put, List.getElem_toArray, List.getElem_cons_zero, List.getElem_cons_succ, List.setIfInBounds_toArray, List.set_cons_zero, List.set_cons_succ])
                      refine wpDet_take (.bool true) (Bl.stays w12) (fun _ h => h) (i := 29) rfl (by kernel_rfl) (by kernel_rfl) (by kernel_rfl) (by kernel_rfl) (fun _ _ _ h => h) (Gives.call 12 #[] (by rfl) (fun _ => by first | (go_simp; done) | (go_simp; rfl)) (fun W hW => (awake_any _ (hTV.up hW)))) ?_
                      (try simp only [Act.put, List.getElem_toArray, List.getElem_cons_zero, List.getElem_cons_succ, List.setIfInBounds_toArray, List.set_cons_zero, List.set_cons_succ])
                      refine wpDet_take ?vW30 (Bl.stays w12) (fun _ h => h) (i := 30) rfl (by kernel_rfl) (by kernel_rfl) (by kernel_rfl) (by kernel_rfl) (fun _ _ _ h => h) (Gives.value (by rfl) ?yW30) ?rW30
                      case yW30 => (intro w' hSw; (try dsimp only at hSw); go_simp; try with_reducible rfl)
                      (try simp only [Act.put, List.getElem_toArray, List.getElem_cons_zero, List.getElem_cons_succ, List.setIfInBounds_toArray, List.set_cons_zero, List.set_cons_succ])
                      refine wpDet_take ?vW31 (Bl.stays w12) (fun _ h => h) (i := 31) rfl (by kernel_rfl) (by kernel_rfl) (by kernel_rfl) (by kernel_rfl) (fun _ _ _ h => h) (Gives.value (by rfl) ?yW31) ?rW31
                      case yW31 => (intro w' hSw; (try dsimp only at hSw); go_simp; try with_reducible rfl)
                      (try simp only [Act.put, List.getElem_toArray, List.getElem_cons_zero, List.getElem_cons_succ, List.setIfInBounds_toArray, List.set_cons_zero, List.set_cons_succ])
                      refine wpDet_done (by kernel_rfl) (fun W9 hV => ?_) _
                      have hB9 := hM.bel.trans ((Bl.out hV).mono hM.bel.size)
                      go_wp2_with fail
                      go_ret
                      exact ⟨rfl, hB9⟩
              · as_aux_lemma =>
                  have hnr : s.nextR (s.nx d.ep d.k d.s d.c d.q) = .z0 := if_neg hE
                  rw [hnr] at hNx
                  have hz : (s.nextE (s.nx d.ep d.k d.s d.c d.q) == 0) = false := by simpa using hE
                  have hz2 : (s.nextE (s.nx d.ep d.k d.s d.c d.q) != 0) = true := by simpa using hE
                  generalize s.nextE (s.nx d.ep d.k d.s d.c d.q) = ce at *
                  rw [rec0b] at hNx
                  have hEq : ∀ W, (binOp .eql 64 (.agg #[.int .i64 0, .int .i64 0, .int .u8 0, .int .u8 0, .int .u8 0, .int .u8 0, .int .u8 0, .int .u8 0, .int .u8 0, .int .u8 0, .int .i64 0, .string ⟨#[]⟩, .int .i64 0, .int .i64 0]) (.agg #[.int .i64 0, .int .i64 0, .int .u8 0, .int .u8 0, .int .u8 0, .int .u8 0, .int .u8 0, .int .u8 0, .int .u8 0, .int .u8 0, .int .i64 0, .string ⟨#[]⟩, .int .i64 0, .int .i64 0])).run Tryd.prog W = .ok (.bool true) W := fun W => by
                    have h := eql_rec .z0 .z0 W
                    rw [rec0b, eqRc_self] at h
                    exact h
                  clear hE hnr
                  go_wp2_with fail
                  refine hNx.mono ?_
                  rintro e w7 ⟨rfl, hb⟩
                  clear hNx q0 q1 q2 q3 q4 q5 q6 q7 q8 q9 q10 p1
                  replace hM := hM.below hb
                  have hX := At.new 64 w7 #[.int .i64 0, .int .i64 0, .int .u8 0, .int .u8 0, .int .u8 0, .int .u8 0, .int .u8 0, .int .u8 0, .int .u8 0, .int .u8 0, .int .i64 0, .string ⟨#[]⟩, .int .i64 0, .int .i64 0]
                  have hb2 := below_alloc' w7 (.cells #[.int .i64 0, .int .i64 0, .int .u8 0, .int .u8 0, .int .u8 0, .int .u8 0, .int .u8 0, .int .u8 0, .int .u8 0, .int .u8 0, .int .i64 0, .string ⟨#[]⟩, .int .i64 0, .int .i64 0] 64)
                  replace hM := hM.below hb2
                  have hW := awake_any _ (hT.up hM.bel)
                  clear hS hK hb hb2 HB
                  go_wp2_with (refine wpList_load_row rfl 64 _ rfl w7.heap.size rfl _ _ _ _ hX Tryd.underlying64 rfl infoRc ?_)
                  refine hW.mono ?_
                  rintro e w8 ⟨rfl, hb⟩
                  go_wp2_with fail
                  go_ret
                  exact ⟨rfl, hM.bel.trans (hb.mono hM.bel.size)⟩
          · as_aux_lemma =>
              have hz : (chkE ix ep C D != 0) = true := by simpa using hcz
              generalize chkE ix ep C D = ce at *
              clear hcz
              have hW := awake_any _ (hT.up HB)
              go_wp2_with fail
              refine hW.mono ?_
              rintro e w9 ⟨rfl, hb9⟩
              go_wp2_with fail
              go_ret
              exact ⟨rfl, HB.trans (hb9.mono HB.size)⟩

end Go.Proofs.YtnbgdkdnlfomeaaDoor.M
