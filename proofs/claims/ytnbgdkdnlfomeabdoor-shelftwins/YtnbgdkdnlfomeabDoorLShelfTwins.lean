/-
  Own text: the walk of the law ShelfTwins.
-/
import Derived.Test.YtnbgdkdnlfomeabDoorBXt
namespace Go.Proofs.YtnbgdkdnlfomeabDoor.M
open Go.ChangeShapes Go.WideShapes Go.ChangeAt Go.RowKit Go.ChangeMaps Go.MapKept Go.Maps Go.Shelf Go.Proofs
set_option linter.unusedSimpArgs false

/-- A table was told; two were. -/
def TB1 (w : World) (v : Value) (m : Sm) (W : World) : Prop := Bl w W ∧ TabR W v m
def TB2 (w : World) (v : Value) (m : Sm) (v2 : Value) (m2 : Sm) (W : World) : Prop := Bl w W ∧ TabR W v m ∧ TabR W v2 m2
theorem TB1.stays (w : World) (v : Value) (m : Sm) : Stays (TB1 w v m) := fun _ _ h hb => ⟨Bl.stays w _ _ h.1 hb, h.2.below hb⟩
theorem TB2.stays (w : World) (v : Value) (m : Sm) (v2 : Value) (m2 : Sm) : Stays (TB2 w v m v2 m2) := fun _ _ h hb => ⟨Bl.stays w _ _ h.1 hb, h.2.1.below hb, h.2.2.below hb⟩

theorem infoDv : (Tryd.prog.info? 43).map (fun i => (i.zero, i.size, i.bytes)) = some (some (.agg #[.int .i64 0, .int .i64 0, .int .i64 0, .bool false, .int .u8 0, .int .u8 0, .int .u8 0, .int .u8 0, .int .u8 0, .int .u8 0, .int .u8 0, .int .u8 0, .string ⟨#[]⟩, .int .i64 0, .int .i64 0, .int .i64 0, .int .i64 0, .int .u8 0, .int .u8 0, .int .u8 0, .int .u8 0, .int .u8 0, .int .u8 0, .int .u8 0, .int .u8 0, .int .i64 0, .string ⟨#[]⟩, .int .i64 0, .int .i64 0]), 29, 136) := by kernel_rfl

set_option maxRecDepth 20000 in
theorem dclone_any {w : World} {p : Option Addr} {n c : Nat} {l : List Dv} (hr : RdG dooS w p n c l) (hn : n ≤ 1000) :
    Calls Tryd.prog 11 #[.slice p n c] w fun e w' => ∃ p' c', e = .returned (.slice p' n c') ∧ OwG dooS 43 w' w.heap.size p' n c' l ∧ Below w.heap.size w w' := by
  have q22 : ∀ (w : World) (a : Option Addr) (n c n' c' : Nat), (binOp .eql 26 (.slice a n c) (.slice none n' c')).run Tryd.prog w = .ok (.bool a.isNone) w := fun w a n c n' c' => Lib.run_eql_slice_nil w _ _ a n c n' c' Tryd.underlying26
  obtain ⟨i0, hi0, hz0, hz1, hz2⟩ := info_parts infoDv
  cases p with
  | none =>
    have hc0 := hr.nil rfl
    have hn0 : n = 0 := by have := hr.cap; omega
    subst hn0
    subst hc0
    have hx : l = [] := List.length_eq_zero_iff.1 hr.len
    subst hx
    go_enter Tryd.func11, Tryd.ntmps11
    go_wp2_with fail
    go_ret
    exact ⟨none, 0, rfl, OwG.none _ _ _ _, Below.refl _ _⟩
  | some ad =>
    have hba := below_alloc' w (.cells #[] 43)
    have hra := hr.below hba
    obtain ⟨p9, c9, w9, hrun, ho9, hch9, hnew9⟩ := run_appG (P := Tryd.prog) (w.alloc (.cells #[] 43)) 26 26 43 i0 _ 136 Tryd.underlying26 hi0 hz0 hz1 hz2 rfl (B := w.heap.size) (p := some ⟨w.heap.size, 0, none⟩) (n := 0) (c := 0) (fs := []) ⟨rfl, Or.inl ⟨rfl, rfl⟩⟩ hra (by omega) (by unfold maxLen; omega) hba.size
    rw [Nat.zero_add, List.nil_append] at ho9
    rw [Nat.zero_add] at hrun
    have hb9 := hba.trans (hch9.below hba.size fun k hk => absurd hk.1 (Nat.lt_irrefl _))
    clear hr hch9 hnew9 hra
    go_enter Tryd.func11, Tryd.ntmps11
    go_wp2_with (refine wpList_app_run rfl (.tmp 5) (.tmp 6) 26 rfl _ _ rfl rfl hrun ?_)
    go_ret
    exact ⟨p9, c9, rfl, ho9, hb9⟩

/-- Three lists of calls. -/
theorem short3_any {w : World} {p : Option Addr} {n c : Nat} {ds : List Dv} (hr : RdG dooS w p n c ds) (hn : n ≤ 9223372036854775807) {p2 : Option Addr} {n2 c2 : Nat} {ds2 : List Dv} (hr2 : RdG dooS w p2 n2 c2 ds2) (hn2 : n2 ≤ 9223372036854775807) {p3 : Option Addr} {n3 c3 : Nat} {ds3 : List Dv} (hr3 : RdG dooS w p3 n3 c3 ds3) (hn3 : n3 ≤ 9223372036854775807) :
    Calls Tryd.prog 6 #[.slice (some ⟨w.heap.size, 0, none⟩) 3 3] (w.alloc (.cells #[.slice p n c, .slice p2 n2 c2, .slice p3 n3 c3] 26)) fun e w' => IsBP (n ≤ 120 ∧ n2 ≤ 120 ∧ n3 ≤ 120) e ∧ Below w.heap.size w w' := by
  have h0 := below_alloc' w (.cells #[.slice p n c, .slice p2 n2 c2, .slice p3 n3 c3] 26)
  have hL := At.new 26 w #[.slice p n c, .slice p2 n2 c2, .slice p3 n3 c3]
  have hA := hr.below h0
  have hB := hr2.below h0
  have hC := hr3.below h0
  generalize (w.alloc (.cells #[.slice p n c, .slice p2 n2 c2, .slice p3 n3 c3] 26)) = W at *
  have h := short_any (w := W) (g2 := w.heap.size) (m := 3) (fun i => if i = 0 then p else if i = 1 then p2 else p3) (fun i => if i = 0 then n else if i = 1 then n2 else n3) (fun i => if i = 0 then c else if i = 1 then c2 else c3) (fun i => if i = 0 then ds else if i = 1 then ds2 else ds3) (by omega) (fun i hi => by
    match i, hi with
    | 0, _ => exact ⟨hL.cell 0, hA⟩
    | 1, _ => exact ⟨hL.cell 1, hB⟩
    | 2, _ => exact ⟨hL.cell 2, hC⟩) (fun i hi => by
    match i, hi with
    | 0, _ => exact hn
    | 1, _ => exact hn2
    | 2, _ => exact hn3)
  refine h.mono ?_
  rintro e w' ⟨⟨b, rfl, hb2⟩, hb3⟩
  exact ⟨⟨b, rfl, fun e => ⟨hb2 e 0 (by omega), hb2 e 1 (by omega), hb2 e 2 (by omega)⟩⟩, h0.trans (hb3.mono h0.size)⟩

def MadeOf (s : Sh) (ix ep : Int) (C : List Ce) (D : List Dn) (ds : List Dv) : Prop := (frS ix ep C D).runs ds = s

theorem runs_app (s : Sh) (a b : List Dv) : s.runs (a ++ b) = (s.runs a).runs b := by unfold Sh.runs; rw [List.foldl_append]

theorem runs_next {s : Sh} {l : List Dv} {k : Nat} (hk : k < l.length) : s.runs (l.take (k + 1)) = ((s.runs (l.take k)).doR (l.getD k .z0)).2.2 := by
  rw [List.take_add_one, List.getElem?_eq_getElem hk, List.getD_eq_getElem?_getD, List.getElem?_eq_getElem hk]
  show s.runs (l.take k ++ [l[k]]) = _
  rw [runs_app]
  rfl

/-- Two shelves; three; four. -/
structure Tw2 (V0 w : World) (o : Nat → Nat) (g g2 : Nat) (s : Sh) (W : World) : Prop where
  bl : Bl V0 W
  mo : MO w o W
  a : SX o 1 W g s
  b : SX o 2 W g2 s
structure Tw3 (V0 w : World) (o : Nat → Nat) (g g2 g3 : Nat) (s sx : Sh) (W : World) : Prop where
  w2 : Tw2 V0 w o g g2 s W
  x : SX o 3 W g3 sx
structure Tw4 (V0 w : World) (o : Nat → Nat) (g g2 g3 g4 : Nat) (s sx sy : Sh) (W : World) : Prop where
  w3 : Tw3 V0 w o g g2 g3 s sx W
  y : SX o 4 W g4 sy
structure WL (Q : World → Prop) (own : Nat → Nat) (B : Nat) (p : Option Addr) (n c : Nat) (l : List Dv) (W : World) : Prop where
  q : Q W
  z : ∀ k, mine p c k → own k = 0
  o : OwG dooS 43 W B p n c l
  s : B ≤ W.heap.size

theorem Tw2.stays (V0 w : World) (o : Nat → Nat) (g g2 : Nat) (s : Sh) : Stays (Tw2 V0 w o g g2 s) := fun _ _ h hb => ⟨Bl.stays V0 _ _ h.bl hb, h.mo.below hb, h.a.below hb, h.b.below hb⟩
theorem Tw3.stays (V0 w : World) (o : Nat → Nat) (g g2 g3 : Nat) (s sx : Sh) : Stays (Tw3 V0 w o g g2 g3 s sx) := fun _ _ h hb => ⟨Tw2.stays _ _ _ _ _ _ _ _ h.w2 hb, h.x.below hb⟩
theorem Tw4.stays (V0 w : World) (o : Nat → Nat) (g g2 g3 g4 : Nat) (s sx sy : Sh) : Stays (Tw4 V0 w o g g2 g3 g4 s sx sy) := fun _ _ h hb => ⟨Tw3.stays _ _ _ _ _ _ _ _ _ _ h.w3 hb, h.y.below hb⟩
theorem WL.stays {Q : World → Prop} (hQ : Stays Q) (own : Nat → Nat) (B : Nat) (p : Option Addr) (n c : Nat) (l : List Dv) : Stays (WL Q own B p n c l) := fun _ _ h hb => ⟨hQ _ _ h.q hb, h.z, h.o.below hb, Nat.le_trans h.s hb.size⟩

theorem SX.chg {own : Nat → Nat} {j : Nat} {X : Nat → Prop} {V W : World} {g : Nat} {s : Sh} (h : SX own j V g s) (hc : Ch X V W) (hx : ∀ k, X k → own k ≠ j) : SX own j W g s := by
  obtain ⟨b, q, n, c, h⟩ := h
  exact ⟨b, q, n, c, ⟨At.same h.sh.blk (hc.block g (At.lt h.sh.blk) fun e => hx g e h.og), h.sh.mp.kept (hc.block b h.sh.mp.lt fun e => hx b e h.ob), h.sh.tl.ch hc (fun k hk e => hx k e (h.om k hk)), h.sh.inv, h.sh.gt⟩, h.og, h.ob, h.om⟩

theorem MO.chg {w : World} {own : Nat → Nat} {X : Nat → Prop} {V W : World} (h : MO w own V) (hc : Ch X V W) (hx : ∀ k, X k → w.heap.size ≤ k) : MO w own W :=
  ⟨h.bel.trans (hc.below h.bel.size hx), fun k hk => ⟨(h.pos k hk).1, Nat.lt_of_lt_of_le (h.pos k hk).2 hc.size⟩⟩

theorem Tw2.low {V0 w : World} {o : Nat → Nat} {g g2 : Nat} {s : Sh} {X : Nat → Prop} {V W : World} (h : Tw2 V0 w o g g2 s V) (hw : w.heap.size ≤ V0.heap.size) (hc : Ch X V W) (h0 : ∀ k, X k → o k = 0) (hB : ∀ k, X k → V0.heap.size ≤ k) : Tw2 V0 w o g g2 s W :=
  ⟨(Bl.out h.bl).trans (hc.below (Bl.out h.bl).size hB), h.mo.chg hc (fun k hk => Nat.le_trans hw (hB k hk)), h.a.chg hc (fun k hk e => by rw [h0 k hk] at e; cases e), h.b.chg hc (fun k hk e => by rw [h0 k hk] at e; cases e)⟩
theorem Tw3.low {V0 w : World} {o : Nat → Nat} {g g2 g3 : Nat} {s sx : Sh} {X : Nat → Prop} {V W : World} (h : Tw3 V0 w o g g2 g3 s sx V) (hw : w.heap.size ≤ V0.heap.size) (hc : Ch X V W) (h0 : ∀ k, X k → o k = 0) (hB : ∀ k, X k → V0.heap.size ≤ k) : Tw3 V0 w o g g2 g3 s sx W :=
  ⟨h.w2.low hw hc h0 hB, h.x.chg hc (fun k hk e => by rw [h0 k hk] at e; cases e)⟩

theorem Tw2.next {V0 w : World} {o : Nat → Nat} {g g2 : Nat} {s : Sh} {V W : World} (h : Tw2 V0 w o g g2 s V) (hb : Below V.heap.size V W) {g3 : Nat} {sx : Sh} (hst : Stp o 3 V W) (hx : SX (mkO o V W 3) 3 W g3 sx) : Tw3 V0 w (mkO o V W 3) g g2 g3 s sx W :=
  ⟨⟨Bl.stays V0 _ _ h.bl hb, h.mo.step (by decide) hst, h.a.other hst (by decide), h.b.other hst (by decide)⟩, hx⟩
theorem Tw3.next {V0 w : World} {o : Nat → Nat} {g g2 g3 : Nat} {s sx : Sh} {V W : World} (h : Tw3 V0 w o g g2 g3 s sx V) (hb : Below V.heap.size V W) {g4 : Nat} {sy : Sh} (hst : Stp o 4 V W) (hy : SX (mkO o V W 4) 4 W g4 sy) : Tw4 V0 w (mkO o V W 4) g g2 g3 g4 s sx sy W :=
  ⟨⟨⟨Bl.stays V0 _ _ h.w2.bl hb, h.w2.mo.step (by decide) hst, h.w2.a.other hst (by decide), h.w2.b.other hst (by decide)⟩, h.x.other hst (by decide)⟩, hy⟩

/-- Ahead of round k. -/
structure LW (w : World) (o : Nat → Nat) (g g2 g3 g4 : Nat) (sa sb sx sy : Sh) (W : World) : Prop where
  mo : MO w o W
  a : SX o 1 W g sa
  b : SX o 2 W g2 sb
  x : SX o 3 W g3 sx
  y : SX o 4 W g4 sy

theorem LW.below {w : World} {o : Nat → Nat} {g g2 g3 g4 : Nat} {sa sb sx sy : Sh} {W W' : World} (h : LW w o g g2 g3 g4 sa sb sx sy W) (hb : Below W.heap.size W W') : LW w o g g2 g3 g4 sa sb sx sy W' :=
  ⟨h.mo.below hb, h.a.below hb, h.b.below hb, h.x.below hb, h.y.below hb⟩
theorem LW.nextA {w : World} {o : Nat → Nat} {g g2 g3 g4 : Nat} {sa sb sx sy : Sh} {V W : World} (h : LW w o g g2 g3 g4 sa sb sx sy V) {s' : Sh} (hst : Stp o 1 V W) (hx : SX (mkO o V W 1) 1 W g s') : LW w (mkO o V W 1) g g2 g3 g4 s' sb sx sy W :=
  ⟨h.mo.step (by decide) hst, hx, h.b.other hst (by decide), h.x.other hst (by decide), h.y.other hst (by decide)⟩
theorem LW.nextB {w : World} {o : Nat → Nat} {g g2 g3 g4 : Nat} {sa sb sx sy : Sh} {V W : World} (h : LW w o g g2 g3 g4 sa sb sx sy V) {s' : Sh} (hst : Stp o 2 V W) (hx : SX (mkO o V W 2) 2 W g2 s') : LW w (mkO o V W 2) g g2 g3 g4 sa s' sx sy W :=
  ⟨h.mo.step (by decide) hst, h.a.other hst (by decide), hx, h.x.other hst (by decide), h.y.other hst (by decide)⟩

set_option maxRecDepth 20000 in
set_option maxHeartbeats 4000000 in
theorem walk_ShelfTwins (w : World) (hT : Tabs w) (ix ep : Int) (cp : Option Addr) (cn cc : Nat) (C : List Ce) (dp : Option Addr) (dn dc : Nat) (D : List Dn) (hC : RdG celS w cp cn cc C) (hD : RdG donS w dp dn dc D) (hck : ∀ c ∈ C, Ce.fit c) (hcn : cn ≤ 9223372036854775807) (hdn : dn ≤ 9223372036854775807)
    (p : Option Addr) (n c : Nat) (ds : List Dv) (hr : RdG dooS w p n c ds) (hds : ∀ d ∈ ds, okD d) (hnn : n ≤ 9223372036854775807) (p2 : Option Addr) (n2 c2 : Nat) (ds2 : List Dv) (hr2 : RdG dooS w p2 n2 c2 ds2) (hds2 : ∀ d ∈ ds2, okD d) (hnn2 : n2 ≤ 9223372036854775807) (p3 : Option Addr) (n3 c3 : Nat) (ds3 : List Dv) (hr3 : RdG dooS w p3 n3 c3 ds3) (hds3 : ∀ d ∈ ds3, okD d) (hnn3 : n3 ≤ 9223372036854775807) :
    Calls Tryd.prog 3 #[.agg #[.int .i64 ix, .int .i64 ep, .slice cp cn cc, .slice dp dn dc], .slice p n c, .slice p2 n2 c2, .slice p3 n3 c3] w fun e w' => e = .returned (.bool true) ∧ Below w.heap.size w w' := by
  have HB := below_alloc' w (.cells #[.int .i64 ix, .int .i64 ep, .slice cp cn cc, .slice dp dn dc] 25)
  have hA := At.new 25 w #[.int .i64 ix, .int .i64 ep, .slice cp cn cc, .slice dp dn dc]
  generalize hW2 : (w.alloc (.cells #[.int .i64 ix, .int .i64 ep, .slice cp cn cc, .slice dp dn dc] 25)) = W2 at *
  have hsm := small_any ix ep cp cn cc C dp dn dc W2 (hC.below HB) hcn hdn
  go_enter Tryd.func3, Tryd.ntmps3
  go_wp2_with (refine wpList_load_row rfl 25 _ rfl w.heap.size rfl _ _ _ _ hA Tryd.underlying25 rfl infoTb ?_)
  refine hsm.mono ?_
  rintro e w3 ⟨⟨bb, rfl, hbb⟩, hb⟩
  clear hsm hW2
  replace HB := HB.trans (hb.mono HB.size)
  replace hA := hA.below hb
  clear hb
  cases bb with
  | false =>
    as_aux_lemma =>
      have hW := awake_any _ (hT.up HB)
      go_wp2_with fail
      refine hW.mono ?_
      rintro e w9 ⟨rfl, hb9⟩
      go_wp2_with fail
      go_ret
      exact ⟨rfl, HB.trans (hb9.mono HB.size)⟩
  | true =>
    as_aux_lemma =>
      obtain ⟨hcn1, hdn1⟩ := hbb rfl
      clear hbb
      have hsh := short3_any (hr.below HB) hnn (hr2.below HB) hnn2 (hr3.below HB) hnn3
      go_wp2_with fail
      refine hsh.mono ?_
      rintro e w4 ⟨⟨bb, rfl, hbb⟩, hb⟩
      clear hsh
      replace HB := HB.trans (hb.mono HB.size)
      replace hA := hA.below hb
      clear hb
      cases bb with
      | false =>
        have hW := awake_any _ (hT.up HB)
        go_wp2_with fail
        refine hW.mono ?_
        rintro e w9 ⟨rfl, hb9⟩
        go_wp2_with fail
        go_ret
        exact ⟨rfl, HB.trans (hb9.mono HB.size)⟩
      | true =>
        as_aux_lemma =>
          have hn1 := hbb rfl
          clear hbb
          have hch := check_any ix ep cp cn cc dp dn dc C D w4 (hC.below HB) (hD.below HB) (by omega) hck (hT.up HB)
          have hcz : (chkE ix ep C D = 0) ∨ ¬ (chkE ix ep C D = 0) := Classical.em _
          go_wp2_with (refine wpList_load_rowG rfl 25 _ rfl w.heap.size rfl _ _ _ _ hA Tryd.underlying25 rfl infoTb ?_)
          refine hch.mono ?_
          rintro e w5 ⟨rfl, hb⟩
          clear hch
          replace HB := HB.trans (hb.mono HB.size)
          replace hA := hA.below hb
          clear hb
          rcases hcz with hcz | hcz
          · as_aux_lemma =>
              have hmd := madeX (fun _ => 0) 1 ix ep cp cn cc dp dn dc C D w5 (hC.below HB) (hD.below HB) (by omega) hck (hT.up HB) (by omega) hcz p n c ds (hr.below HB) hds hnn
              have hkn := (frS_gd hcz).runs ds
              rw [hcz]
              obtain ⟨s, hse⟩ : ∃ s, s = (frS ix ep C D).runs ds := ⟨_, rfl⟩
              rw [← hse] at hmd hkn
              have HSE : MadeOf s ix ep C D ds := hse.symm
              clear hse
              go_wp2_with (refine wpList_load_row rfl 25 _ rfl w.heap.size rfl _ _ _ _ hA Tryd.underlying25 rfl infoTb ?_)
              refine hmd.mono ?_
              rintro e w6 ⟨g, rfl, hb, hst, hS⟩
              clear hmd
              have hM := (MO.none w w5 HB).step (i := 1) (by decide) hst
              replace HB := HB.trans (hb.mono HB.size)
              replace hA := hA.below hb
              clear hb hst
              generalize (mkO (fun _ => 0) w5 w6 1) = o1 at *
              clear hcn hdn
              obtain ⟨hn1, hn2, hn3⟩ := hn1
              have hcl := cloneX o1 (j := 2) hS
              go_wp2_with fail
              refine hcl.mono ?_
              rintro e w7 ⟨g2, rfl, hb, hst, hC2⟩
              clear hcl HB
              replace hS := hS.other hst (by decide)
              replace hA := hA.below hb
              replace hM := hM.step (i := 2) (by decide) hst
              clear hst hb
              generalize (mkO o1 w6 w7 2) = o2 at *
              go_wp2_with fail
              obtain ⟨i0, hi0, hz0, hz1, hz2⟩ := info_parts infoDv
              have hS0 : Tw2 w7 w o2 g g2 s w7.drew := Tw2.stays _ _ _ _ _ _ _ _ ⟨Below.refl _ _, hM, hS, hC2⟩ (Below.refl _ _).drew
              refine wp_region_det [0, 1, 3, 6, 7, 9, 12, 13] (Bl w7) (Tw2 w7 w o2 g g2 s) (by kernel_rfl) hS0 ?_
              refine wpDet_take ?vW0 (Tw2.stays w7 w o2 g g2 s) (fun _ h => h.bl) (i := 0) rfl (by kernel_rfl) (by kernel_rfl) (by kernel_rfl) (by kernel_rfl) (fun _ _ _ h => h) (Gives.value (by rfl) ?yW0) ?rW0
              case yW0 => (intro w' hSw; have ta0 := At.cell (At.below hA (Bl.out hSw)) 0; have ta1 := At.cell (At.below hA (Bl.out hSw)) 1; have ta2 := At.cell (At.below hA (Bl.out hSw)) 2; have ta3 := At.cell (At.below hA (Bl.out hSw)) 3; simp only [List.getElem?_toArray, List.getElem?_cons_zero, List.getElem?_cons_succ] at ta0 ta1 ta2 ta3; (try dsimp only at hSw); go_simp; try with_reducible rfl)
              (try simp only [Act.put, List.getElem_toArray, List.getElem_cons_zero, List.getElem_cons_succ, List.setIfInBounds_toArray, List.set_cons_zero, List.set_cons_succ])
              refine wpDet_take ?vW1 (Tw2.stays w7 w o2 g g2 s) (fun _ h => h.bl) (i := 1) rfl (by kernel_rfl) (by kernel_rfl) (by kernel_rfl) (by kernel_rfl) (fun _ _ _ h => h) (Gives.value (by rfl) ?yW1) ?rW1
              case yW1 => (intro w' hSw; (try dsimp only at hSw); go_simp; try with_reducible rfl)
              (try simp only [Act.put, List.getElem_toArray, List.getElem_cons_zero, List.getElem_cons_succ, List.setIfInBounds_toArray, List.set_cons_zero, List.set_cons_succ])
              refine wpDet_take ?vW3 (Tw2.stays w7 w o2 g g2 s) (fun _ h => h.bl) (i := 3) rfl (by kernel_rfl) (by kernel_rfl) (by kernel_rfl) (by kernel_rfl) (fun _ _ _ h => h) (Gives.value (by rfl) ?yW3) ?rW3
              case yW3 => (intro w' hSw; (try dsimp only at hSw); go_simp; try with_reducible rfl)
              (try simp only [Act.put, List.getElem_toArray, List.getElem_cons_zero, List.getElem_cons_succ, List.setIfInBounds_toArray, List.set_cons_zero, List.set_cons_succ])
              refine wpDet_take ?vW6 (Tw2.stays w7 w o2 g g2 s) (fun _ h => h.bl) (i := 6) rfl (by kernel_rfl) (by kernel_rfl) (by kernel_rfl) (by kernel_rfl) (fun _ _ _ h => h) (Gives.value (by rfl) ?yW6) ?rW6
              case yW6 => (intro w' hSw; have ta0 := At.cell (At.below hA (Bl.out hSw)) 0; have ta1 := At.cell (At.below hA (Bl.out hSw)) 1; have ta2 := At.cell (At.below hA (Bl.out hSw)) 2; have ta3 := At.cell (At.below hA (Bl.out hSw)) 3; simp only [List.getElem?_toArray, List.getElem?_cons_zero, List.getElem?_cons_succ] at ta0 ta1 ta2 ta3; (try dsimp only at hSw); go_simp; try with_reducible rfl)
              (try simp only [Act.put, List.getElem_toArray, List.getElem_cons_zero, List.getElem_cons_succ, List.setIfInBounds_toArray, List.set_cons_zero, List.set_cons_succ])
              refine wpDet_take ?vW7 (Tw2.stays w7 w o2 g g2 s) (fun _ h => h.bl) (i := 7) rfl (by kernel_rfl) (by kernel_rfl) (by kernel_rfl) (by kernel_rfl) (fun _ _ _ h => h) (Gives.value (by rfl) ?yW7) ?rW7
              case yW7 => (intro w' hSw; (try dsimp only at hSw); go_simp; try with_reducible rfl)
              (try simp only [Act.put, List.getElem_toArray, List.getElem_cons_zero, List.getElem_cons_succ, List.setIfInBounds_toArray, List.set_cons_zero, List.set_cons_succ])
              refine wpDet_take ?vW9 (Tw2.stays w7 w o2 g g2 s) (fun _ h => h.bl) (i := 9) rfl (by kernel_rfl) (by kernel_rfl) (by kernel_rfl) (by kernel_rfl) (fun _ _ _ h => h) (Gives.value (by rfl) ?yW9) ?rW9
              case yW9 => (intro w' hSw; (try dsimp only at hSw); go_simp; try with_reducible rfl)
              (try simp only [Act.put, List.getElem_toArray, List.getElem_cons_zero, List.getElem_cons_succ, List.setIfInBounds_toArray, List.set_cons_zero, List.set_cons_succ])
              refine wpDet_ready (rs := [2]) (by kernel_rfl) (by simp) (AllDet.cons rfl (fun V hV K hK => ?_) AllDet.nil)
              rw [if_pos (by rfl)]
              have hbV := Bl.out hV.bl
              refine wp_enterX 11 #[.slice p n c] (by first | (go_simp; done) | (go_simp; rfl)) (fun x W => ∃ p' c', x = .slice p' n c' ∧ OwG dooS 43 W V.heap.size p' n c' ds ∧ Below V.heap.size V W) ((dclone_any ((hr.below hM.bel).below hbV) (by omega)).mono fun r w' ⟨p', c', h1, h2, h3⟩ => ⟨_, h1, p', c', rfl, h2, h3⟩) ?_
              rintro x7 V7 ⟨pq0, cq0, rfl, ho7, hb7⟩
              have hz7 : WL (Tw2 w7 w o2 g g2 s) o2 w7.heap.size pq0 n cq0 ds V7 := ⟨(Tw2.stays w7 w o2 g g2 s) _ _ hV hb7, (fun k hk => Classical.byContradiction fun e => by have := (hV.mo.pos k e).2; have := (ho7.lt hk).1; omega), ho7.lower hbV.size, Nat.le_trans hbV.size hb7.size⟩
              refine hK.out (WL (Tw2 w7 w o2 g g2 s) o2 w7.heap.size pq0 n cq0 ds) _ _ (WL.stays (Tw2.stays w7 w o2 g g2 s) _ _ _ _ _ _) (fun _ _ h => h.q.bl) hz7 ?_
              clear hK K hV hbV ho7 hb7 hz7
              (try simp only [Act.put, List.getElem_toArray, List.getElem_cons_zero, List.getElem_cons_succ, List.setIfInBounds_toArray, List.set_cons_zero, List.set_cons_succ])
              refine wpDet_ready (rs := [4]) (by kernel_rfl) (by simp) (AllDet.cons rfl (fun V hV K hK => ?_) AllDet.nil)
              rw [if_pos (by rfl)]
              have hbV := Bl.out hV.q.bl
              obtain ⟨pa0, ca0, w9, hrun, ho9, hch9, hnew9⟩ := run_appG (P := Tryd.prog) V 26 26 43 i0 _ 136 Tryd.underlying26 hi0 hz0 hz1 hz2 rfl hV.o ((hr2.below hM.bel).below hbV) (by omega) (by unfold maxLen; omega) hV.s
              refine wp_app _ _ _ rfl _ _ rfl rfl _ w9 hrun ?_
              have hq9 : (Tw2 w7 w o2 g g2 s) w9 := hV.q.low hM.bel.size hch9 hV.z (fun k hk => (hV.o.lt hk).1)
              have hz9 : WL (Tw2 w7 w o2 g g2 s) o2 w7.heap.size pa0 (n + n2) ca0 (ds ++ ds2) w9 := ⟨hq9, (fun k hk => (hnew9 k hk).elim (hV.z k) fun h => Classical.byContradiction fun e => by have := (hV.q.mo.pos k e).2; omega), ho9, Nat.le_trans hV.s hch9.size⟩
              refine hK.out (WL (Tw2 w7 w o2 g g2 s) o2 w7.heap.size pa0 (n + n2) ca0 (ds ++ ds2)) _ _ (WL.stays (Tw2.stays w7 w o2 g g2 s) _ _ _ _ _ _) (fun _ _ h => h.q.bl) hz9 ?_
              clear hK K hV hbV hrun ho9 hch9 hnew9 hq9 hz9
              (try simp only [Act.put, List.getElem_toArray, List.getElem_cons_zero, List.getElem_cons_succ, List.setIfInBounds_toArray, List.set_cons_zero, List.set_cons_succ])
              refine wpDet_ready (rs := [5]) (by kernel_rfl) (by simp) (AllDet.cons rfl (fun V hV K hK => ?_) AllDet.nil)
              rw [if_pos (by rfl)]
              have hbV := Bl.out hV.q.bl
              refine wp_enterX 9 #[.agg #[.int .i64 ix, .int .i64 ep, .slice cp cn cc, .slice dp dn dc], .slice pa0 (n + n2) ca0] (by first | (go_simp; done) | (go_simp; rfl)) (fun x W => ∃ g', x = .pointer (some ⟨g', 0, none⟩) ∧ Below V.heap.size V W ∧ Stp o2 3 V W ∧ SX (mkO o2 V W 3) 3 W g' ((frS ix ep C D).runs (ds ++ ds2))) ((madeX o2 3 ix ep cp cn cc dp dn dc C D V ((hC.below hM.bel).below hbV) ((hD.below hM.bel).below hbV) (by omega) hck ((hT.up hM.bel).up hbV) (by omega) hcz pa0 (n + n2) ca0 (ds ++ ds2) hV.o.rd (fun d hd => (List.mem_append.1 hd).elim (hds d) (hds2 d)) (by omega)).mono fun r w' ⟨g', h1, h2, h3, h4⟩ => ⟨_, h1, g', rfl, h2, h3, h4⟩) ?_
              rintro x7 V7 ⟨g3, rfl, hb7, hst7, hx7⟩
              have hz7 := hV.q.next hb7 hst7 hx7
              generalize mkO o2 V V7 3 = o3 at *
              refine hK.out (Tw3 w7 w o3 g g2 g3 s ((frS ix ep C D).runs (ds ++ ds2))) _ _ (Tw3.stays w7 w o3 g g2 g3 s ((frS ix ep C D).runs (ds ++ ds2))) (fun _ _ h => h.w2.bl) hz7 ?_
              clear hK K hV hbV hb7 hst7 hx7 hz7
              (try simp only [Act.put, List.getElem_toArray, List.getElem_cons_zero, List.getElem_cons_succ, List.setIfInBounds_toArray, List.set_cons_zero, List.set_cons_succ])
              refine wpDet_ready (rs := [8]) (by kernel_rfl) (by simp) (AllDet.cons rfl (fun V hV K hK => ?_) AllDet.nil)
              rw [if_pos (by rfl)]
              have hbV := Bl.out hV.w2.bl
              refine wp_enterX 11 #[.slice p n c] (by first | (go_simp; done) | (go_simp; rfl)) (fun x W => ∃ p' c', x = .slice p' n c' ∧ OwG dooS 43 W V.heap.size p' n c' ds ∧ Below V.heap.size V W) ((dclone_any ((hr.below hM.bel).below hbV) (by omega)).mono fun r w' ⟨p', c', h1, h2, h3⟩ => ⟨_, h1, p', c', rfl, h2, h3⟩) ?_
              rintro x7 V7 ⟨pq1, cq1, rfl, ho7, hb7⟩
              have hz7 : WL (Tw3 w7 w o3 g g2 g3 s ((frS ix ep C D).runs (ds ++ ds2))) o3 w7.heap.size pq1 n cq1 ds V7 := ⟨(Tw3.stays w7 w o3 g g2 g3 s ((frS ix ep C D).runs (ds ++ ds2))) _ _ hV hb7, (fun k hk => Classical.byContradiction fun e => by have := (hV.w2.mo.pos k e).2; have := (ho7.lt hk).1; omega), ho7.lower hbV.size, Nat.le_trans hbV.size hb7.size⟩
              refine hK.out (WL (Tw3 w7 w o3 g g2 g3 s ((frS ix ep C D).runs (ds ++ ds2))) o3 w7.heap.size pq1 n cq1 ds) _ _ (WL.stays (Tw3.stays w7 w o3 g g2 g3 s ((frS ix ep C D).runs (ds ++ ds2))) _ _ _ _ _ _) (fun _ _ h => h.q.w2.bl) hz7 ?_
              clear hK K hV hbV ho7 hb7 hz7
              (try simp only [Act.put, List.getElem_toArray, List.getElem_cons_zero, List.getElem_cons_succ, List.setIfInBounds_toArray, List.set_cons_zero, List.set_cons_succ])
              refine wpDet_ready (rs := [10]) (by kernel_rfl) (by simp) (AllDet.cons rfl (fun V hV K hK => ?_) AllDet.nil)
              rw [if_pos (by rfl)]
              have hbV := Bl.out hV.q.w2.bl
              obtain ⟨pa1, ca1, w9, hrun, ho9, hch9, hnew9⟩ := run_appG (P := Tryd.prog) V 26 26 43 i0 _ 136 Tryd.underlying26 hi0 hz0 hz1 hz2 rfl hV.o ((hr3.below hM.bel).below hbV) (by omega) (by unfold maxLen; omega) hV.s
              refine wp_app _ _ _ rfl _ _ rfl rfl _ w9 hrun ?_
              have hq9 : (Tw3 w7 w o3 g g2 g3 s ((frS ix ep C D).runs (ds ++ ds2))) w9 := hV.q.low hM.bel.size hch9 hV.z (fun k hk => (hV.o.lt hk).1)
              have hz9 : WL (Tw3 w7 w o3 g g2 g3 s ((frS ix ep C D).runs (ds ++ ds2))) o3 w7.heap.size pa1 (n + n3) ca1 (ds ++ ds3) w9 := ⟨hq9, (fun k hk => (hnew9 k hk).elim (hV.z k) fun h => Classical.byContradiction fun e => by have := (hV.q.w2.mo.pos k e).2; omega), ho9, Nat.le_trans hV.s hch9.size⟩
              refine hK.out (WL (Tw3 w7 w o3 g g2 g3 s ((frS ix ep C D).runs (ds ++ ds2))) o3 w7.heap.size pa1 (n + n3) ca1 (ds ++ ds3)) _ _ (WL.stays (Tw3.stays w7 w o3 g g2 g3 s ((frS ix ep C D).runs (ds ++ ds2))) _ _ _ _ _ _) (fun _ _ h => h.q.w2.bl) hz9 ?_
              clear hK K hV hbV hrun ho9 hch9 hnew9 hq9 hz9
              (try simp only [Act.put, List.getElem_toArray, List.getElem_cons_zero, List.getElem_cons_succ, List.setIfInBounds_toArray, List.set_cons_zero, List.set_cons_succ])
              refine wpDet_ready (rs := [11]) (by kernel_rfl) (by simp) (AllDet.cons rfl (fun V hV K hK => ?_) AllDet.nil)
              rw [if_pos (by rfl)]
              have hbV := Bl.out hV.q.w2.bl
              refine wp_enterX 9 #[.agg #[.int .i64 ix, .int .i64 ep, .slice cp cn cc, .slice dp dn dc], .slice pa1 (n + n3) ca1] (by first | (go_simp; done) | (go_simp; rfl)) (fun x W => ∃ g', x = .pointer (some ⟨g', 0, none⟩) ∧ Below V.heap.size V W ∧ Stp o3 4 V W ∧ SX (mkO o3 V W 4) 4 W g' ((frS ix ep C D).runs (ds ++ ds3))) ((madeX o3 4 ix ep cp cn cc dp dn dc C D V ((hC.below hM.bel).below hbV) ((hD.below hM.bel).below hbV) (by omega) hck ((hT.up hM.bel).up hbV) (by omega) hcz pa1 (n + n3) ca1 (ds ++ ds3) hV.o.rd (fun d hd => (List.mem_append.1 hd).elim (hds d) (hds3 d)) (by omega)).mono fun r w' ⟨g', h1, h2, h3, h4⟩ => ⟨_, h1, g', rfl, h2, h3, h4⟩) ?_
              rintro x7 V7 ⟨g4, rfl, hb7, hst7, hx7⟩
              have hz7 := hV.q.next hb7 hst7 hx7
              generalize mkO o3 V V7 4 = o4 at *
              refine hK.out (Tw4 w7 w o4 g g2 g3 g4 s ((frS ix ep C D).runs (ds ++ ds2)) ((frS ix ep C D).runs (ds ++ ds3))) _ _ (Tw4.stays w7 w o4 g g2 g3 g4 s ((frS ix ep C D).runs (ds ++ ds2)) ((frS ix ep C D).runs (ds ++ ds3))) (fun _ _ h => h.w3.w2.bl) hz7 ?_
              clear hK K hV hbV hb7 hst7 hx7 hz7
              (try simp only [Act.put, List.getElem_toArray, List.getElem_cons_zero, List.getElem_cons_succ, List.setIfInBounds_toArray, List.set_cons_zero, List.set_cons_succ])
              refine wpDet_take ?vW12 (Tw4.stays w7 w o4 g g2 g3 g4 s ((frS ix ep C D).runs (ds ++ ds2)) ((frS ix ep C D).runs (ds ++ ds3))) (fun _ h => h.w3.w2.bl) (i := 12) rfl (by kernel_rfl) (by kernel_rfl) (by kernel_rfl) (by kernel_rfl) (fun _ _ _ h => h) (Gives.value (by rfl) ?yW12) ?rW12
              case yW12 => (intro w' hSw; (try dsimp only at hSw); go_simp; try with_reducible rfl)
              (try simp only [Act.put, List.getElem_toArray, List.getElem_cons_zero, List.getElem_cons_succ, List.setIfInBounds_toArray, List.set_cons_zero, List.set_cons_succ])
              refine wpDet_take ?vW13 (Tw4.stays w7 w o4 g g2 g3 g4 s ((frS ix ep C D).runs (ds ++ ds2)) ((frS ix ep C D).runs (ds ++ ds3))) (fun _ h => h.w3.w2.bl) (i := 13) rfl (by kernel_rfl) (by kernel_rfl) (by kernel_rfl) (by kernel_rfl) (fun _ _ _ h => h) (Gives.value (by rfl) ?yW13) ?rW13
              case yW13 => (intro w' hSw; (try dsimp only at hSw); go_simp; try with_reducible rfl)
              (try simp only [Act.put, List.getElem_toArray, List.getElem_cons_zero, List.getElem_cons_succ, List.setIfInBounds_toArray, List.set_cons_zero, List.set_cons_succ])
              refine wpDet_done (by kernel_rfl) (fun W9 hV => ?_) _
              have hL : LW w o4 g g2 g3 g4 s s ((frS ix ep C D).runs (ds ++ ds2)) ((frS ix ep C D).runs (ds ++ ds3)) W9 := ⟨hV.w3.w2.mo, hV.w3.w2.a, hV.w3.w2.b, hV.w3.x, hV.y⟩
              rw [runs_app, runs_app] at hL
              have hr2' := (hr2.below hM.bel).below (Bl.out hV.w3.w2.bl)
              have hr3' := (hr3.below hM.bel).below (Bl.out hV.w3.w2.bl)
              rw [show (frS ix ep C D).runs ds = s from HSE] at hL
              clear hV hM hS hC2 hA hi0 hz0 hz1 hz2 hr2' hr3' HSE
              have hga := hkn.runs ds2
              have hgb := hkn.runs ds3
              have hl2 := hr2.len
              have hl3 := hr3.len
              have HL2 : Hid (ds2.length = n2) := hl2
              have HL3 : Hid (ds3.length = n3) := hl3
              clear hl2 hl3
              obtain ⟨mx, hmx, hm2, hm3, hm4⟩ : ∃ mx : Nat, max (n2 : Int) (n3 : Int) = (mx : Int) ∧ n2 ≤ mx ∧ n3 ≤ mx ∧ mx ≤ 120 := ⟨max n2 n3, by omega, by omega, by omega, by omega⟩
              go_wp2_with fail
              clear hmx
              generalize HSA : s.runs ds2 = sa at *
              generalize HSB : s.runs ds3 = sb at *
              have HA : Hid (s.runs ds2 = sa) := HSA
              have HB2 : Hid (s.runs ds3 = sb) := HSB
              clear HSA HSB
              go_loopw [61] (fun i wr => ∃ (k : Nat) (o : Nat → Nat), k ≤ mx ∧ i = .int .i64 k ∧ LW w o g g2 g3 g4 (s.runs (ds2.take k)) (s.runs (ds3.take k)) sa sb wr) (fun i _ => mx - (intOf i).toNat)
              case atStart => exact ⟨0, o4, Nat.zero_le _, rfl, hL⟩
              case round =>
                clear hL
                obtain ⟨k, o, hk, rfl, hL⟩ := hrel
                by_cases hkm : k < mx
                · have hki : (k : Int) < (mx : Int) := by omega
                  by_cases hk2 : k < n2
                  · as_aux_lemma =>
                      have hk2i : (k : Int) < (n2 : Int) := by omega
                      obtain ⟨bb, of, rfl, _⟩ := hr2.at (by omega)
                      have hrk := hr2.rangeB hL.mo.bel hk2
                      have hnx := runs_next (s := s) (show k < ds2.length by have := HL2.out; omega)
                      have hdk := hds2 (ds2.getD k .z0) (by rw [List.getD_eq_getElem?_getD, List.getElem?_eq_getElem (show k < ds2.length by have := HL2.out; omega)]; exact List.getElem_mem _)
                      have hrk2 : wr.rangeAt bb (of + k * 29) [.int .i64 (ds2.getD k .z0).op, .int .i64 (ds2.getD k .z0).ep, .int .i64 (ds2.getD k .z0).i, .bool (ds2.getD k .z0).nr, .int .u8 (bt (ds2.getD k .z0).k 0), .int .u8 (bt (ds2.getD k .z0).k 1), .int .u8 (bt (ds2.getD k .z0).k 2), .int .u8 (bt (ds2.getD k .z0).k 3), .int .u8 (bt (ds2.getD k .z0).k 4), .int .u8 (bt (ds2.getD k .z0).k 5), .int .u8 (bt (ds2.getD k .z0).k 6), .int .u8 (bt (ds2.getD k .z0).k 7), .string (ds2.getD k .z0).s, .int .i64 (ds2.getD k .z0).c, .int .i64 (ds2.getD k .z0).q, .int .i64 (ds2.getD k .z0).x.ix, .int .i64 (ds2.getD k .z0).x.ep, .int .u8 (bt (ds2.getD k .z0).x.k 0), .int .u8 (bt (ds2.getD k .z0).x.k 1), .int .u8 (bt (ds2.getD k .z0).x.k 2), .int .u8 (bt (ds2.getD k .z0).x.k 3), .int .u8 (bt (ds2.getD k .z0).x.k 4), .int .u8 (bt (ds2.getD k .z0).x.k 5), .int .u8 (bt (ds2.getD k .z0).x.k 6), .int .u8 (bt (ds2.getD k .z0).x.k 7), .int .i64 (ds2.getD k .z0).x.v, .string (ds2.getD k .z0).x.s, .int .i64 (ds2.getD k .z0).x.c, .int .i64 (ds2.getD k .z0).x.q] := hrk
                      generalize ds2.getD k .z0 = x at *
                      have hW := doesX hL.a x hdk (hT.up hL.mo.bel)
                      rw [← hnx] at hW
                      clear hnx hrk hdk
                      go_wp2_with (refine wpList_load_mid rfl 43 _ rfl bb (of + k * 29) rfl _ _ hrk2 Tryd.underlying43 rfl infoDo ?_)
                      refine hW.mono ?_
                      rintro e w10 ⟨rfl, hst, hx⟩
                      clear hW hrk2
                      replace hL := hL.nextA hst hx
                      clear hst hx
                      generalize (mkO o wr w10 1) = o5 at *
                      generalize Value.agg #[.int .i64 x.op, .int .i64 x.ep, .int .i64 x.i, .bool x.nr, .int .u8 (bt x.k 0), .int .u8 (bt x.k 1), .int .u8 (bt x.k 2), .int .u8 (bt x.k 3), .int .u8 (bt x.k 4), .int .u8 (bt x.k 5), .int .u8 (bt x.k 6), .int .u8 (bt x.k 7), .string x.s, .int .i64 x.c, .int .i64 x.q, .int .i64 x.x.ix, .int .i64 x.x.ep, .int .u8 (bt x.x.k 0), .int .u8 (bt x.x.k 1), .int .u8 (bt x.x.k 2), .int .u8 (bt x.x.k 3), .int .u8 (bt x.x.k 4), .int .u8 (bt x.x.k 5), .int .u8 (bt x.x.k 6), .int .u8 (bt x.x.k 7), .int .i64 x.x.v, .string x.x.s, .int .i64 x.x.c, .int .i64 x.x.q] = dv8
                      generalize Value.tuple #[.agg #[.int .i64 ((s.runs (ds2.take k)).doR x).1.ix, .int .i64 ((s.runs (ds2.take k)).doR x).1.ep, .int .u8 (bt ((s.runs (ds2.take k)).doR x).1.k 0), .int .u8 (bt ((s.runs (ds2.take k)).doR x).1.k 1), .int .u8 (bt ((s.runs (ds2.take k)).doR x).1.k 2), .int .u8 (bt ((s.runs (ds2.take k)).doR x).1.k 3), .int .u8 (bt ((s.runs (ds2.take k)).doR x).1.k 4), .int .u8 (bt ((s.runs (ds2.take k)).doR x).1.k 5), .int .u8 (bt ((s.runs (ds2.take k)).doR x).1.k 6), .int .u8 (bt ((s.runs (ds2.take k)).doR x).1.k 7), .int .i64 ((s.runs (ds2.take k)).doR x).1.v, .string ((s.runs (ds2.take k)).doR x).1.s, .int .i64 ((s.runs (ds2.take k)).doR x).1.c, .int .i64 ((s.runs (ds2.take k)).doR x).1.q], .int .i64 ((s.runs (ds2.take k)).doR x).2.1] = dv9
                      by_cases hk3 : k < n3
                      · as_aux_lemma =>
                          have hk3i : (k : Int) < (n3 : Int) := by omega
                          obtain ⟨bb3, of3, rfl, _⟩ := hr3.at (by omega)
                          have hrk := hr3.rangeB hL.mo.bel hk3
                          have hnx := runs_next (s := s) (show k < ds3.length by have := HL3.out; omega)
                          have hdk := hds3 (ds3.getD k .z0) (by rw [List.getD_eq_getElem?_getD, List.getElem?_eq_getElem (show k < ds3.length by have := HL3.out; omega)]; exact List.getElem_mem _)
                          have hrk2 : w10.rangeAt bb3 (of3 + k * 29) [.int .i64 (ds3.getD k .z0).op, .int .i64 (ds3.getD k .z0).ep, .int .i64 (ds3.getD k .z0).i, .bool (ds3.getD k .z0).nr, .int .u8 (bt (ds3.getD k .z0).k 0), .int .u8 (bt (ds3.getD k .z0).k 1), .int .u8 (bt (ds3.getD k .z0).k 2), .int .u8 (bt (ds3.getD k .z0).k 3), .int .u8 (bt (ds3.getD k .z0).k 4), .int .u8 (bt (ds3.getD k .z0).k 5), .int .u8 (bt (ds3.getD k .z0).k 6), .int .u8 (bt (ds3.getD k .z0).k 7), .string (ds3.getD k .z0).s, .int .i64 (ds3.getD k .z0).c, .int .i64 (ds3.getD k .z0).q, .int .i64 (ds3.getD k .z0).x.ix, .int .i64 (ds3.getD k .z0).x.ep, .int .u8 (bt (ds3.getD k .z0).x.k 0), .int .u8 (bt (ds3.getD k .z0).x.k 1), .int .u8 (bt (ds3.getD k .z0).x.k 2), .int .u8 (bt (ds3.getD k .z0).x.k 3), .int .u8 (bt (ds3.getD k .z0).x.k 4), .int .u8 (bt (ds3.getD k .z0).x.k 5), .int .u8 (bt (ds3.getD k .z0).x.k 6), .int .u8 (bt (ds3.getD k .z0).x.k 7), .int .i64 (ds3.getD k .z0).x.v, .string (ds3.getD k .z0).x.s, .int .i64 (ds3.getD k .z0).x.c, .int .i64 (ds3.getD k .z0).x.q] := hrk
                          generalize ds3.getD k .z0 = x3 at *
                          have hW := doesX hL.b x3 hdk (hT.up hL.mo.bel)
                          rw [← hnx] at hW
                          clear hnx hrk hdk
                          go_wp2_with (refine wpList_load_mid rfl 43 _ rfl bb3 (of3 + k * 29) rfl _ _ hrk2 Tryd.underlying43 rfl infoDo ?_)
                          refine hW.mono ?_
                          rintro e w11 ⟨rfl, hst, hx⟩
                          clear hW hrk2
                          replace hL := hL.nextB hst hx
                          clear hst hx
                          generalize Value.agg #[.int .i64 x3.op, .int .i64 x3.ep, .int .i64 x3.i, .bool x3.nr, .int .u8 (bt x3.k 0), .int .u8 (bt x3.k 1), .int .u8 (bt x3.k 2), .int .u8 (bt x3.k 3), .int .u8 (bt x3.k 4), .int .u8 (bt x3.k 5), .int .u8 (bt x3.k 6), .int .u8 (bt x3.k 7), .string x3.s, .int .i64 x3.c, .int .i64 x3.q, .int .i64 x3.x.ix, .int .i64 x3.x.ep, .int .u8 (bt x3.x.k 0), .int .u8 (bt x3.x.k 1), .int .u8 (bt x3.x.k 2), .int .u8 (bt x3.x.k 3), .int .u8 (bt x3.x.k 4), .int .u8 (bt x3.x.k 5), .int .u8 (bt x3.x.k 6), .int .u8 (bt x3.x.k 7), .int .i64 x3.x.v, .string x3.x.s, .int .i64 x3.x.c, .int .i64 x3.x.q] = dv10
                          generalize Value.tuple #[.agg #[.int .i64 ((s.runs (ds3.take k)).doR x3).1.ix, .int .i64 ((s.runs (ds3.take k)).doR x3).1.ep, .int .u8 (bt ((s.runs (ds3.take k)).doR x3).1.k 0), .int .u8 (bt ((s.runs (ds3.take k)).doR x3).1.k 1), .int .u8 (bt ((s.runs (ds3.take k)).doR x3).1.k 2), .int .u8 (bt ((s.runs (ds3.take k)).doR x3).1.k 3), .int .u8 (bt ((s.runs (ds3.take k)).doR x3).1.k 4), .int .u8 (bt ((s.runs (ds3.take k)).doR x3).1.k 5), .int .u8 (bt ((s.runs (ds3.take k)).doR x3).1.k 6), .int .u8 (bt ((s.runs (ds3.take k)).doR x3).1.k 7), .int .i64 ((s.runs (ds3.take k)).doR x3).1.v, .string ((s.runs (ds3.take k)).doR x3).1.s, .int .i64 ((s.runs (ds3.take k)).doR x3).1.c, .int .i64 ((s.runs (ds3.take k)).doR x3).1.q], .int .i64 ((s.runs (ds3.take k)).doR x3).2.1] = dv11
                          go_wp2_with fail
                          exact ⟨⟨k + 1, _, by omega, by go_num, hL⟩, by simp [intOf]; omega⟩
                      · as_aux_lemma =>
                          have hk3i : ¬ (k : Int) < (n3 : Int) := by omega
                          have hnx : ds3.take (k + 1) = ds3.take k := by rw [List.take_of_length_le (by have := HL3.out; omega), List.take_of_length_le (by have := HL3.out; omega)]
                          rw [← hnx] at hL
                          clear hnx
                          go_wp2_with fail
                          exact ⟨⟨k + 1, _, by omega, by go_num, hL⟩, by simp [intOf]; omega⟩
                  · as_aux_lemma =>
                      have hk2i : ¬ (k : Int) < (n2 : Int) := by omega
                      have hnx : ds2.take (k + 1) = ds2.take k := by rw [List.take_of_length_le (by have := HL2.out; omega), List.take_of_length_le (by have := HL2.out; omega)]
                      rw [← hnx] at hL
                      clear hnx
                      by_cases hk3 : k < n3
                      · as_aux_lemma =>
                          have hk3i : (k : Int) < (n3 : Int) := by omega
                          obtain ⟨bb3, of3, rfl, _⟩ := hr3.at (by omega)
                          have hrk := hr3.rangeB hL.mo.bel hk3
                          have hnx := runs_next (s := s) (show k < ds3.length by have := HL3.out; omega)
                          have hdk := hds3 (ds3.getD k .z0) (by rw [List.getD_eq_getElem?_getD, List.getElem?_eq_getElem (show k < ds3.length by have := HL3.out; omega)]; exact List.getElem_mem _)
                          have hrk2 : wr.rangeAt bb3 (of3 + k * 29) [.int .i64 (ds3.getD k .z0).op, .int .i64 (ds3.getD k .z0).ep, .int .i64 (ds3.getD k .z0).i, .bool (ds3.getD k .z0).nr, .int .u8 (bt (ds3.getD k .z0).k 0), .int .u8 (bt (ds3.getD k .z0).k 1), .int .u8 (bt (ds3.getD k .z0).k 2), .int .u8 (bt (ds3.getD k .z0).k 3), .int .u8 (bt (ds3.getD k .z0).k 4), .int .u8 (bt (ds3.getD k .z0).k 5), .int .u8 (bt (ds3.getD k .z0).k 6), .int .u8 (bt (ds3.getD k .z0).k 7), .string (ds3.getD k .z0).s, .int .i64 (ds3.getD k .z0).c, .int .i64 (ds3.getD k .z0).q, .int .i64 (ds3.getD k .z0).x.ix, .int .i64 (ds3.getD k .z0).x.ep, .int .u8 (bt (ds3.getD k .z0).x.k 0), .int .u8 (bt (ds3.getD k .z0).x.k 1), .int .u8 (bt (ds3.getD k .z0).x.k 2), .int .u8 (bt (ds3.getD k .z0).x.k 3), .int .u8 (bt (ds3.getD k .z0).x.k 4), .int .u8 (bt (ds3.getD k .z0).x.k 5), .int .u8 (bt (ds3.getD k .z0).x.k 6), .int .u8 (bt (ds3.getD k .z0).x.k 7), .int .i64 (ds3.getD k .z0).x.v, .string (ds3.getD k .z0).x.s, .int .i64 (ds3.getD k .z0).x.c, .int .i64 (ds3.getD k .z0).x.q] := hrk
                          generalize ds3.getD k .z0 = x3 at *
                          have hW := doesX hL.b x3 hdk (hT.up hL.mo.bel)
                          rw [← hnx] at hW
                          clear hnx hrk hdk
                          go_wp2_with (refine wpList_load_mid rfl 43 _ rfl bb3 (of3 + k * 29) rfl _ _ hrk2 Tryd.underlying43 rfl infoDo ?_)
                          refine hW.mono ?_
                          rintro e w11 ⟨rfl, hst, hx⟩
                          clear hW hrk2
                          replace hL := hL.nextB hst hx
                          clear hst hx
                          generalize Value.agg #[.int .i64 x3.op, .int .i64 x3.ep, .int .i64 x3.i, .bool x3.nr, .int .u8 (bt x3.k 0), .int .u8 (bt x3.k 1), .int .u8 (bt x3.k 2), .int .u8 (bt x3.k 3), .int .u8 (bt x3.k 4), .int .u8 (bt x3.k 5), .int .u8 (bt x3.k 6), .int .u8 (bt x3.k 7), .string x3.s, .int .i64 x3.c, .int .i64 x3.q, .int .i64 x3.x.ix, .int .i64 x3.x.ep, .int .u8 (bt x3.x.k 0), .int .u8 (bt x3.x.k 1), .int .u8 (bt x3.x.k 2), .int .u8 (bt x3.x.k 3), .int .u8 (bt x3.x.k 4), .int .u8 (bt x3.x.k 5), .int .u8 (bt x3.x.k 6), .int .u8 (bt x3.x.k 7), .int .i64 x3.x.v, .string x3.x.s, .int .i64 x3.x.c, .int .i64 x3.x.q] = dv10
                          generalize Value.tuple #[.agg #[.int .i64 ((s.runs (ds3.take k)).doR x3).1.ix, .int .i64 ((s.runs (ds3.take k)).doR x3).1.ep, .int .u8 (bt ((s.runs (ds3.take k)).doR x3).1.k 0), .int .u8 (bt ((s.runs (ds3.take k)).doR x3).1.k 1), .int .u8 (bt ((s.runs (ds3.take k)).doR x3).1.k 2), .int .u8 (bt ((s.runs (ds3.take k)).doR x3).1.k 3), .int .u8 (bt ((s.runs (ds3.take k)).doR x3).1.k 4), .int .u8 (bt ((s.runs (ds3.take k)).doR x3).1.k 5), .int .u8 (bt ((s.runs (ds3.take k)).doR x3).1.k 6), .int .u8 (bt ((s.runs (ds3.take k)).doR x3).1.k 7), .int .i64 ((s.runs (ds3.take k)).doR x3).1.v, .string ((s.runs (ds3.take k)).doR x3).1.s, .int .i64 ((s.runs (ds3.take k)).doR x3).1.c, .int .i64 ((s.runs (ds3.take k)).doR x3).1.q], .int .i64 ((s.runs (ds3.take k)).doR x3).2.1] = dv11
                          go_wp2_with fail
                          exact ⟨⟨k + 1, _, by omega, by go_num, hL⟩, by simp [intOf]; omega⟩
                      · as_aux_lemma =>
                          have hk3i : ¬ (k : Int) < (n3 : Int) := by omega
                          have hnx : ds3.take (k + 1) = ds3.take k := by rw [List.take_of_length_le (by have := HL3.out; omega), List.take_of_length_le (by have := HL3.out; omega)]
                          rw [← hnx] at hL
                          clear hnx
                          go_wp2_with fail
                          exact ⟨⟨k + 1, _, by omega, by go_num, hL⟩, by simp [intOf]; omega⟩
                · as_aux_lemma =>
                    have hki : ¬ (k : Int) < (mx : Int) := by omega
                    obtain rfl : k = mx := by omega
                    rw [List.take_of_length_le (show ds2.length ≤ k by have := HL2.out; omega), List.take_of_length_le (show ds3.length ≤ k by have := HL3.out; omega), HA.out, HB2.out] at hL
                    have hfa := hL.a.inv.few
                    have hfb := hL.b.inv.few
                    clear hkn HA HB2 HL2 HL3 hr2 hr3
                    have hW := lowX hL.a
                    go_wp2_with fail
                    refine hW.mono ?_
                    rintro e v1 ⟨rfl, hb⟩
                    clear hW
                    replace hL := hL.below hb
                    clear hb
                    have hW := behX hL.a rfl
                    go_wp2_with fail
                    refine hW.mono ?_
                    rintro e u1 ⟨q1, d1, rfl, ra, hb⟩
                    clear hW
                    replace hL := hL.below hb
                    clear hb
                    have hW := lowX hL.x
                    go_wp2_with fail
                    refine hW.mono ?_
                    rintro e v2 ⟨rfl, hb⟩
                    clear hW
                    replace hL := hL.below hb
                    replace ra := ra.below hb
                    clear hb
                    have hW := behX hL.x rfl
                    go_wp2_with fail
                    refine hW.mono ?_
                    rintro e u2 ⟨q2, d2, rfl, rx, hb⟩
                    clear hW
                    replace hL := hL.below hb
                    replace ra := ra.below hb
                    clear hb
                    have hW := lowX hL.b
                    go_wp2_with fail
                    refine hW.mono ?_
                    rintro e v3 ⟨rfl, hb⟩
                    clear hW
                    replace hL := hL.below hb
                    replace ra := ra.below hb
                    replace rx := rx.below hb
                    clear hb
                    have hW := behX hL.b rfl
                    go_wp2_with fail
                    refine hW.mono ?_
                    rintro e u3 ⟨q3, d3, rfl, rb, hb⟩
                    clear hW
                    replace hL := hL.below hb
                    replace ra := ra.below hb
                    replace rx := rx.below hb
                    clear hb
                    have hW := lowX hL.y
                    go_wp2_with fail
                    refine hW.mono ?_
                    rintro e v4 ⟨rfl, hb⟩
                    clear hW
                    replace hL := hL.below hb
                    replace ra := ra.below hb
                    replace rx := rx.below hb
                    replace rb := rb.below hb
                    clear hb
                    have hW := behX hL.y rfl
                    go_wp2_with fail
                    refine hW.mono ?_
                    rintro e u4 ⟨q4, d4, rfl, ry, hb⟩
                    clear hW
                    replace hL := hL.below hb
                    replace ra := ra.below hb
                    replace rx := rx.below hb
                    replace rb := rb.below hb
                    clear hb
                    have hW := sameR_any ra rx (by omega)
                    go_wp2_with fail
                    refine hW.mono ?_
                    rintro e t1 ⟨rfl, hb⟩
                    clear hW ra rx
                    replace hL := hL.below hb
                    replace rb := rb.below hb
                    replace ry := ry.below hb
                    clear hb
                    have hW := wholeX hL.a hga.kn
                    go_wp2_with fail
                    refine hW.mono ?_
                    rintro e t2 ⟨va, rfl, ta, hb⟩
                    clear hW
                    replace hL := hL.below hb
                    replace rb := rb.below hb
                    replace ry := ry.below hb
                    clear hb
                    have hW := wholeX hL.x hga.kn
                    go_wp2_with fail
                    refine hW.mono ?_
                    rintro e t3 ⟨vx, rfl, tx, hb⟩
                    clear hW
                    replace hL := hL.below hb
                    replace rb := rb.below hb
                    replace ry := ry.below hb
                    replace ta := ta.below hb
                    clear hb
                    have hW := sameX ta tx (hga.kn.take _)
                    go_wp2_with fail
                    refine hW.mono ?_
                    rintro e t4 ⟨rfl, hb⟩
                    clear hW ta tx
                    replace hL := hL.below hb
                    replace rb := rb.below hb
                    replace ry := ry.below hb
                    clear hb
                    have hW := sameR_any rb ry (by omega)
                    go_wp2_with fail
                    refine hW.mono ?_
                    rintro e t5 ⟨rfl, hb⟩
                    clear hW rb ry
                    replace hL := hL.below hb
                    clear hb
                    have hW := wholeX hL.b hgb.kn
                    go_wp2_with fail
                    refine hW.mono ?_
                    rintro e t6 ⟨vb, rfl, tb, hb⟩
                    clear hW
                    replace hL := hL.below hb
                    clear hb
                    have hW := wholeX hL.y hgb.kn
                    go_wp2_with fail
                    refine hW.mono ?_
                    rintro e t7 ⟨vy, rfl, ty, hb⟩
                    clear hW
                    replace hL := hL.below hb
                    replace tb := tb.below hb
                    clear hb
                    have hW := sameX tb ty (hgb.kn.take _)
                    go_wp2_with fail
                    refine hW.mono ?_
                    rintro e t8 ⟨rfl, hb⟩
                    clear hW tb ty
                    replace hL := hL.below hb
                    clear hb
                    have hW := awake_any _ (hT.up hL.mo.bel)
                    have hbl := hL.mo.bel
                    clear hL
                    go_wp2_with fail
                    refine hW.mono ?_
                    rintro e w22 ⟨rfl, hb⟩
                    go_wp2_with fail
                    go_ret
                    exact ⟨rfl, hbl.trans (hb.mono hbl.size)⟩
          · as_aux_lemma =>
              have hz : (chkE ix ep C D != 0) = true := by simpa using hcz
              generalize chkE ix ep C D = ce at *
              clear hcz
              have hW := awake_any _ (hT.up HB)
              go_wp2_with fail
              refine hW.mono ?_
              rintro e w9 ⟨rfl, hb9⟩
              go_wp2_with fail
              go_ret
              exact ⟨rfl, HB.trans (hb9.mono HB.size)⟩

end Go.Proofs.YtnbgdkdnlfomeabDoor.M
