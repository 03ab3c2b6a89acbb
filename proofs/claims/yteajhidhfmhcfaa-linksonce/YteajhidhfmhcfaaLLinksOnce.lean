/-
  Own text: the walk of the statement 'LinksOnce'.
-/
import Derived.Test.YteajhidhfmhcfaaNOnceP
namespace Go.Proofs.Yteajhidhfmhcfaa.M
open Go.ChangeShapes Go.WideShapes Go.ChangeAt Go.RowKit Go.ChangeMaps Go.MapKept Go.Maps

/-- A look-up answers this. -/
def LkIs (cb : Nat) (key : Value) (cc : Int) (W : World) : Prop := (Instr.lookup 54 (.map (some cb)) key false).run Try.prog W = .ok (.int .i64 cc) W

theorem lk_of {W : World} {cb n : Nat} {f : Value → Option Value} {x y : Int} {t : ByteArray} {kl : Lit} {cc : Int} (h : MapIs Try.prog 57 W cb n f) (hkl : keyOf Try.prog 57 (skV x y t) = some kl) (hcf : cntF f x y t cc) : LkIs cb (skV x y t) cc W := by
  unfold LkIs
  rw [h.look (Keyed.of_law sentLaw) cmapT (zeroI W) hkl]
  rw [show _ = Value.int .i64 cc from hcf]

/-- While an entry is out. -/
structure CM (w6 : World) (cb : Nat) (o1 : Obj) (Q : World → Prop) (W : World) : Prop where
  ex : Ex cb w6 W
  bb : W.heap[cb]? = some o1
  q : Q W

theorem CM.stays {w6 : World} {cb : Nat} {o1 : Obj} {Q : World → Prop} (hQ : Stays Q) : Stays (CM w6 cb o1 Q) := fun W W' h hb =>
  ⟨h.ex.trans (Ex.of_below hb), (hb.block cb (Array.getElem?_eq_some_iff.1 h.bb).1).trans h.bb, hQ W W' h.q hb⟩

theorem up_some (f : Value → Option Value) (key val : Value) : ∃ f' : Value → Option Value, f' key = some val ∧ ∀ v, v ≠ key → f' v = f v := by
  classical
  exact ⟨fun v => if v = key then some val else f v, if_pos rfl, fun v hv => if_neg hv⟩

theorem NM.exm {w w' : World} {B g b n cb cn : Nat} {m : PN} {P : Program} {t : TypeId} {f : Value → Option Value} (h : NM w B g b n m) (hm : MapIs P t w cb cn f) (he : Ex cb w w') (hg : cb ≠ g) (hb : cb ≠ b) : NM w' B g b n m := by
  obtain ⟨⟨R, h1⟩, h2, h3, h4⟩ := h
  refine ⟨⟨R, h1.ex he (Ne.symm hg) (Ne.symm hb) fun a c hn e => ?_⟩, h2, h3, h4⟩
  obtain ⟨es, clock, hmm, _⟩ := hm
  rcases (h1.rows a c hn).2 with ⟨h5, _⟩ | ⟨g', cap', cur, h5, _, h6, _⟩
  · rw [h5] at e; cases e
  · rw [h5] at e
    injection e with e
    have e2 : g' = cb := e
    rw [e2, hmm] at h6
    cases h6

theorem BelF.mapIs {w w' : World} {B g b cb n : Nat} {P : Program} {t : TypeId} {f : Value → Option Value} (h : BelF B g b w w') (hm : MapIs P t w cb n f) (hg : cb ≠ g) (hb : cb ≠ b) : MapIs P t w' cb n f := by
  refine hm.kept (h.fr cb hm.lt hg hb fun cs fz e => ?_)
  obtain ⟨es, clock, h1, _⟩ := hm
  rw [h1] at e
  cases e

theorem RdN.below {w w' : World} {p : Option Addr} {n c : Nat} {ls : List Nd} (h : RdN w p n c ls) (hb : Below w.heap.size w w') : RdN w' p n c ls := by
  refine ⟨h.len, fun hn => ?_, fun j hj => ?_⟩
  · obtain ⟨b, o, e, hc⟩ := h.cells hn
    refine ⟨b, o, e, fun i hi => ?_⟩
    obtain ⟨k0, k1, k2, k3, k4, k5⟩ := hc i hi
    exact ⟨cell_below hb k0, cell_below hb k1, cell_below hb k2, cell_below hb k3, cell_below hb k4, cell_below hb k5⟩
  · obtain ⟨r1, r2⟩ := h.rd j hj
    exact ⟨r1.below hb, r2⟩

/-- Under way. -/
def OnI (w : World) (B g b cb k : Nat) (wr : World) : Prop := ∃ m f, NM wr B g b k m ∧ MapIs Try.prog 57 wr cb k f ∧ Cn f m k ∧ Below w.heap.size w wr

theorem OnI.out {w : World} {B g b cb k : Nat} {wr : World} (h : OnI w B g b cb k wr) : ∃ m f, NM wr B g b k m ∧ MapIs Try.prog 57 wr cb k f ∧ Cn f m k ∧ Below w.heap.size w wr := h

theorem str_nums (s : ByteArray) : strOfNums (numsOf s) = s := by
  obtain ⟨d⟩ := s
  obtain ⟨l⟩ := d
  unfold strOfNums numsOf
  simp only [List.map_map]
  congr 2
  refine (List.map_congr_left (g := id) fun c _ => ?_).trans (List.map_id l)
  show UInt8.ofNat ((c.toNat : Int).toNat) = c
  simp

theorem str_size (xs : List Int) : (strOfNums xs).size = xs.length := strOfNums_size xs

set_option linter.unusedSimpArgs false in
set_option linter.unusedVariables false in
set_option maxRecDepth 20000 in
set_option maxHeartbeats 8000000 in
theorem walk_LinksOnce (w : World) (p : Option Addr) (n c : Nat) (ls : List Nd) (hr : RdN w p n c ls) :
    Calls Try.prog 4 #[.slice p n c] w fun r w' => r = .returned (.bool true) ∧ Below w.heap.size w w' := by
  have hW := fun W => awake_any W
  have h0b := below_alloc w (.cells #[.slice p n c] 22)
  have hA0 := At.new 22 w #[.slice p n c]
  have gS := short_list _ w.heap.size p n c ls (hA0.cell 0) (hr.below h0b)
  clear hA0
  go_enter Try.func4, Try.ntmps4
  go_wp2_with fail
  refine gS.mono ?_
  rintro o w3 ⟨⟨bb, rfl, hn150⟩, hb3⟩
  have HB := h0b.trans (hb3.mono h0b.size)
  clear gS hb3 h0b
  cases bb with
  | false =>
    go_wp2_with fail
    refine (hW _).mono ?_
    rintro o w9 ⟨rfl, hb9⟩
    go_wp2_with fail
    go_ret
    exact ⟨rfl, HB.trans (hb9.mono HB.size)⟩
  | true =>
    have hn1 := hn150 rfl
    clear hn150
    have gN := New_any w3
    go_wp2_with fail
    refine gN.mono ?_
    rintro o w4 ⟨g, b, rfl, hNB, hb4⟩
    clear gN
    have hnm4 : NM w4 w3.heap.size g b 0 ⟨fun _ _ => [], 0, 0⟩ := ⟨⟨_, hNB⟩, fun _ _ => Nat.zero_le _, (by decide), ⟨Int.le_refl _, Int.le_refl _⟩⟩
    clear hNB
    have hba := below_alloc w4 (.map #[] 0)
    have hmp5 := MapIs.made (P := Try.prog) (k := 57) w4
    have hmk := run_makeMap (P := Try.prog) 54 w4
    have HB4 := HB.trans (hb4.mono HB.size)
    have HB5 := HB4.trans (hba.mono HB4.size)
    have hnm5 := hnm4.below hba
    have hcg : w4.heap.size ≠ g := Nat.ne_of_gt hnm4.lt.1
    have hcb : w4.heap.size ≠ b := Nat.ne_of_gt hnm4.lt.2.1
    have hcw : w.heap.size ≤ w4.heap.size := HB4.size
    have hwB : w.heap.size ≤ w3.heap.size := HB.size
    go_wp2_with fail
    have hst : OnI w w3.heap.size g b w4.heap.size 0 (w4.alloc (.map #[] 0)) := ⟨_, _, hnm5, hmp5, ⟨fun _ _ _ => ⟨0, rfl, Int.le_refl _, Int.le_refl _⟩, fun _ _ _ h => by cases h⟩, HB5⟩
    clear hnm4 hnm5 hmp5 hba hmk HB HB4 HB5 hb4
    generalize (w4.alloc (.map #[] 0)) = w5 at *
    generalize w4.heap.size = cb at *
    generalize w3.heap.size = B at *
    go_loopw [23] (fun i wr => ∃ (k : Nat), k ≤ n ∧ i = .int .i64 k ∧ OnI w B g b cb k wr) (fun i _ => n - (intOf i).toNat)
    case atStart => exact ⟨0, Nat.zero_le _, rfl, hst⟩
    case round =>
      obtain ⟨k, hk, rfl, hI⟩ := hrel
      obtain ⟨m, f, hnm, hmp0, hcn, hbw⟩ := OnI.out hI
      clear hI hst
      by_cases hkn : k < n
      · have hki : (k : Int) < (n : Int) := by omega
        have hrk := hr.below hbw
        obtain ⟨gb, go, rfl, hcl⟩ := hrk.cells (by omega)
        have hat := hcl k hkn
        have hrd := hrk.rd k hkn
        have hrw := hr.rd k hkn
        clear hrk hcl
        generalize ls.getD k .z0 = z at *
        obtain ⟨op, i, x, y, bq, bl, bc, s, xb⟩ := z
        obtain ⟨c0, c1, c2, c3, c4, c5⟩ := hat
        dsimp only at c0 c1 c2 c3 c4 c5
        have hba := below_alloc wr (.cells #[.int .i64 op, .int .i64 i, .int .i64 x, .int .i64 y, .slice bq bl bc, .int .u64 s] 37)
        have hbx0 := At.new 37 wr #[.int .i64 op, .int .i64 i, .int .i64 x, .int .i64 y, .slice bq bl bc, .int .u64 s]
        have hd := does_any (hnm.below hba) (by omega) op i x y bq bl bc s xb ⟨hrd.1.below hba, hrd.2⟩
        have hgxg : wr.heap.size ≠ g ∧ wr.heap.size ≠ b ∧ wr.heap.size ≠ cb := ⟨Nat.ne_of_gt hnm.lt.1, Nat.ne_of_gt hnm.lt.2.1, Nat.ne_of_gt hmp0.lt⟩
        obtain ⟨d0, d1, d2, d3, d4, d5⟩ := hbx0.six
        go_wp2_with fail
        refine hd.mono ?_
        rintro o W6 ⟨⟨p1, m1, cq1, rfl, hr1, hu1⟩, hnm6, hF⟩
        obtain ⟨kA, kB, kC, kD⟩ := step_kinds m ⟨op, i, x, y, bq, bl, bc, s, xb⟩
        have hbx := hF.at hbx0 hgxg.1 hgxg.2.1 (by decide)
        have hmp := hF.mapIs (hmp0.kept (hba.block cb hmp0.lt)) hcg hcb
        have hbw6 : Below w.heap.size w W6 := (hbw.trans (hba.mono hbw.size)).trans (hF.bel.mono hwB)
        have hrx := hrw.1.below hbw6
        have hx : Wf x := hrw.2.2.2.2.1
        have hy : Wf y := hrw.2.2.2.2.2.1
        have hxc : ∀ a, bq = some a → 0 < bl → a.block ≠ cb := by
          intro a ha h0
          obtain ⟨xb0, xo, e, hc⟩ := hrw.1.cells h0
          have hlt := World.block_lt_of_cell? _ _ (hc 0 h0)
          have e2 : bq = some ⟨xb0, xo, none⟩ := e
          rw [ha] at e2
          injection e2 with e2
          rw [e2]
          dsimp only at hlt ⊢
          omega
        have hxl : xb.length = bl := hrw.1.len
        have hk9 : k ≤ maxLen := by unfold maxLen; omega
        dsimp only at kA kB kC kD hrx
        generalize (m.step ⟨op, i, x, y, bq, bl, bc, s, xb⟩).2 = a at *
        generalize (m.step ⟨op, i, x, y, bq, bl, bc, s, xb⟩).1 = m' at *
        clear hd hF hba hbx0 c0 c1 c2 c3 c4 c5 d0 d1 d2 d3 d4 d5 hnm hmp0 hrd hrw hbw
        generalize wr.heap.size = gx at *
        obtain ⟨d0, d1, d2, d3, d4, d5⟩ := hbx.six
        by_cases h1 : wrap64 ((IntKind.u64.wrap op).tmod 9) < 3 ∧ a.e = 0
        · obtain ⟨hbl, hm'⟩ := kA h1
          have HM : Hid (m'.N = upN m.N x y (m.N x y ++ [strOfNums xb])) := hm'
          have e3 : decide (wrap64 ((IntKind.u64.wrap op).tmod 9) < 3) = true := decide_eq_true h1.1
          have e0 : (a.e == 0) = true := by rw [h1.2]; rfl
          have hsz : (strOfNums xb).size ≤ 8192 := by rw [str_size]; omega
          obtain ⟨kl, hkl⟩ := skey_ok hx hy (strOfNums xb) (Nat.le_trans hsz (by decide))
          obtain ⟨cc, hcf, hcc1, hcc2⟩ := hcn.num x y (strOfNums xb)
          have hwr9 : IntKind.i64.wrap (cc + 1) = cc + 1 := by rw [IntKind.wrap_i64]; omega
          have hQ : (fun W => At 37 W gx #[.int .i64 op, .int .i64 i, .int .i64 x, .int .i64 y, .slice bq bl bc, .int .u64 s] ∧ Rd .u8 W bq bl bc xb) W6 := ⟨hbx, hrx⟩
          have hQs : Stays (fun W => At 37 W gx #[.int .i64 op, .int .i64 i, .int .i64 x, .int .i64 y, .slice bq bl bc, .int .u64 s] ∧ Rd .u8 W bq bl bc xb) := fun W W' h hb => ⟨h.1.below hb, h.2.below hb⟩
          have hQe : ∀ (V : World) (o : Obj), (fun W => At 37 W gx #[.int .i64 op, .int .i64 i, .int .i64 x, .int .i64 y, .slice bq bl bc, .int .u64 s] ∧ Rd .u8 W bq bl bc xb) V → (fun W => At 37 W gx #[.int .i64 op, .int .i64 i, .int .i64 x, .int .i64 y, .slice bq bl bc, .int .u64 s] ∧ Rd .u8 W bq bl bc xb) (setBlock V cb o) := fun V o h => ⟨h.1.ex (Ex.setB V cb o) hgxg.2.2, h.2.ex (Ex.setB V cb o) hxc⟩
          clear h1 hm' kA kB kC kD hr1 hu1
          go_wp2_with fail
          have hS6 : Bl W6 W6.drew := (Below.refl _ _).drew
          refine wp_region_det [0, 1, 2, 3, 4, 5, 6, 7, 8, 10] (fun W => (fun W => At 37 W gx #[.int .i64 op, .int .i64 i, .int .i64 x, .int .i64 y, .slice bq bl bc, .int .u64 s] ∧ Rd .u8 W bq bl bc xb) W ∧ LkIs cb (skV x y (strOfNums xb)) cc W) (Bl W6) (by kernel_rfl) hS6 ?_
          refine wpDet_take ?vP0 (Bl.stays W6) (fun V h => ⟨hQs W6 V hQ h, lk_of (hmp.kept (h.block cb hmp.lt)) hkl hcf⟩) (i := 0) rfl (by kernel_rfl) (by kernel_rfl) (by kernel_rfl) (by kernel_rfl) (fun _ _ _ h => h) (Gives.value (by rfl) ?yP0) ?rP0
          case yP0 => (intro w' hSw; (try dsimp only at hSw); go_simp; try with_reducible rfl)
          (try simp only [Act.put, List.getElem_toArray, List.getElem_cons_zero, List.getElem_cons_succ, List.setIfInBounds_toArray, List.set_cons_zero, List.set_cons_succ])
          refine wpDet_take ?vP1 (Bl.stays W6) (fun V h => ⟨hQs W6 V hQ h, lk_of (hmp.kept (h.block cb hmp.lt)) hkl hcf⟩) (i := 1) rfl (by kernel_rfl) (by kernel_rfl) (by kernel_rfl) (by kernel_rfl) (fun _ _ _ h => h) (Gives.value (by rfl) ?yP1) ?rP1
          case yP1 => (intro w' hSw; (try dsimp only at hSw); go_simp; try with_reducible rfl)
          (try simp only [Act.put, List.getElem_toArray, List.getElem_cons_zero, List.getElem_cons_succ, List.setIfInBounds_toArray, List.set_cons_zero, List.set_cons_succ])
          refine wpDet_take _ (Bl.stays W6) (fun V h => ⟨hQs W6 V hQ h, lk_of (hmp.kept (h.block cb hmp.lt)) hkl hcf⟩) (i := 2) rfl (by kernel_rfl) (by kernel_rfl) (by kernel_rfl) (by kernel_rfl) (fun _ _ _ h => h) (Gives.of_yields (yieldsIf_load_mid (by rfl) _ _ rfl _ _ rfl _ _ (fun W h => At.mid6 h.1.1) Try.underlying33 rfl sizeLk)) ?_
          (try simp only [Act.put, List.getElem_toArray, List.getElem_cons_zero, List.getElem_cons_succ, List.setIfInBounds_toArray, List.set_cons_zero, List.set_cons_succ])
          refine wpDet_take ?vP3 (Bl.stays W6) (fun V h => ⟨hQs W6 V hQ h, lk_of (hmp.kept (h.block cb hmp.lt)) hkl hcf⟩) (i := 3) rfl (by kernel_rfl) (by kernel_rfl) (by kernel_rfl) (by kernel_rfl) (fun _ _ _ h => h) (Gives.value (by rfl) ?yP3) ?rP3
          case yP3 => (intro w' hSw; (try dsimp only at hSw); go_simp; try with_reducible rfl)
          (try simp only [Act.put, List.getElem_toArray, List.getElem_cons_zero, List.getElem_cons_succ, List.setIfInBounds_toArray, List.set_cons_zero, List.set_cons_succ])
          refine wpDet_take ?vP4 (Bl.stays W6) (fun V h => ⟨hQs W6 V hQ h, lk_of (hmp.kept (h.block cb hmp.lt)) hkl hcf⟩) (i := 4) rfl (by kernel_rfl) (by kernel_rfl) (by kernel_rfl) (by kernel_rfl) (fun _ _ _ h => h) (Gives.value (by rfl) ?yP4) ?rP4
          case yP4 => (intro w' hSw; have hz := hSw.1.1.cell 4; (try dsimp only at hSw); go_simp; try with_reducible rfl)
          (try simp only [Act.put, List.getElem_toArray, List.getElem_cons_zero, List.getElem_cons_succ, List.setIfInBounds_toArray, List.set_cons_zero, List.set_cons_succ])
          refine wpDet_take ?vP5 (Bl.stays W6) (fun V h => ⟨hQs W6 V hQ h, lk_of (hmp.kept (h.block cb hmp.lt)) hkl hcf⟩) (i := 5) rfl (by kernel_rfl) (by kernel_rfl) (by kernel_rfl) (by kernel_rfl) (fun _ _ _ h => h) (Gives.value (by rfl) ?yP5) ?rP5
          case yP5 => (intro w' hSw; have hz := hSw.1.2.str; (try dsimp only at hSw); go_simp; try with_reducible rfl)
          (try simp only [Act.put, List.getElem_toArray, List.getElem_cons_zero, List.getElem_cons_succ, List.setIfInBounds_toArray, List.set_cons_zero, List.set_cons_succ])
          refine wpDet_take ?vP6 (Bl.stays W6) (fun V h => ⟨hQs W6 V hQ h, lk_of (hmp.kept (h.block cb hmp.lt)) hkl hcf⟩) (i := 6) rfl (by kernel_rfl) (by kernel_rfl) (by kernel_rfl) (by kernel_rfl) (fun _ _ _ h => h) (Gives.value (by rfl) ?yP6) ?rP6
          case yP6 => (intro w' hSw; (try dsimp only at hSw); go_simp; try with_reducible rfl)
          (try simp only [Act.put, List.getElem_toArray, List.getElem_cons_zero, List.getElem_cons_succ, List.setIfInBounds_toArray, List.set_cons_zero, List.set_cons_succ])
          refine wpDet_take (.int .i64 cc) (Bl.stays W6) (fun V h => ⟨hQs W6 V hQ h, lk_of (hmp.kept (h.block cb hmp.lt)) hkl hcf⟩) (i := 7) rfl (by kernel_rfl) (by kernel_rfl) (by kernel_rfl) (by kernel_rfl) (fun _ _ _ h => h) (Gives.value (by rfl) ?yP7) ?rP7
          case yP7 => (intro w' hSw; have hz := hSw.2; unfold LkIs skV at hz; (try dsimp only at hSw); go_simp; try with_reducible rfl)
          (try simp only [Act.put, List.getElem_toArray, List.getElem_cons_zero, List.getElem_cons_succ, List.setIfInBounds_toArray, List.set_cons_zero, List.set_cons_succ])
          refine wpDet_take ?vP8 (Bl.stays W6) (fun V h => ⟨hQs W6 V hQ h, lk_of (hmp.kept (h.block cb hmp.lt)) hkl hcf⟩) (i := 8) rfl (by kernel_rfl) (by kernel_rfl) (by kernel_rfl) (by kernel_rfl) (fun _ _ _ h => h) (Gives.value (by rfl) ?yP8) ?rP8
          case yP8 => (intro w' hSw; (try dsimp only at hSw); go_simp; try with_reducible rfl)
          (try simp only [Act.put, List.getElem_toArray, List.getElem_cons_zero, List.getElem_cons_succ, List.setIfInBounds_toArray, List.set_cons_zero, List.set_cons_succ])
          refine wpDet_ready (rs := [9]) (by kernel_rfl) (by simp) (AllDet.cons rfl (fun V hV K hK => ?_) AllDet.nil)
          rw [if_pos (by rfl)]
          have hVb := Bl.out' hV
          have hmpV := hmp.kept (hVb.block cb hmp.lt)
          obtain ⟨stp, o1, hrun, hlk9, hback⟩ := hmpV.entryL hk9 sentLaw cmapT zeroI hkl
          rw [show _ = Value.int .i64 cc from hcf] at hrun hlk9
          have hrun' : (Instr.mapEntry 54 (.map (some cb)) (.agg #[.int .i64 x, .int .i64 y, .string (strOfNums xb)])).run Try.prog V = .ok (.tuple #[.int .i64 cc, goInt stp]) (setBlock V cb o1) := hrun
          refine wp_value (.tuple #[.int .i64 cc, goInt stp]) (setBlock V cb o1) (by first | (go_simp; done) | (go_simp; rfl)) ?_
          have hcm : CM W6 cb o1 (fun W => At 37 W gx #[.int .i64 op, .int .i64 i, .int .i64 x, .int .i64 y, .slice bq bl bc, .int .u64 s] ∧ Rd .u8 W bq bl bc xb) (setBlock V cb o1) := CM.mk ((Ex.of_below hVb).trans (Ex.setB V cb o1)) (heap_setBlock V cb o1 hmpV.lt) (hQe V o1 (hQs W6 V hQ hVb))
          refine hK.out (CM W6 cb o1 (fun W => At 37 W gx #[.int .i64 op, .int .i64 i, .int .i64 x, .int .i64 y, .slice bq bl bc, .int .u64 s] ∧ Rd .u8 W bq bl bc xb)) _ _ (CM.stays hQs) (fun _ W h => ⟨h.q, hlk9 W h.bb⟩) hcm ?_
          clear hK K hV hVb hmpV hrun hrun' hcm
          (try simp only [Act.put, List.getElem_toArray, List.getElem_cons_zero, List.getElem_cons_succ, List.setIfInBounds_toArray, List.set_cons_zero, List.set_cons_succ])
          refine wpDet_take ?vPb10 (CM.stays hQs) (fun W h => ⟨h.q, hlk9 W h.bb⟩) (i := 10) rfl (by kernel_rfl) (by kernel_rfl) (by kernel_rfl) (by kernel_rfl) (fun _ _ _ h => h) (Gives.value (by rfl) ?yPb10) ?rPb10
          case yPb10 => (intro w' hSw; (try dsimp only at hSw); go_simp; try with_reducible rfl)
          (try simp only [Act.put, List.getElem_toArray, List.getElem_cons_zero, List.getElem_cons_succ, List.setIfInBounds_toArray, List.set_cons_zero, List.set_cons_succ])
          refine wpDet_ready (rs := [11]) (by kernel_rfl) (by simp) (AllDet.cons rfl (fun V hV K hK => ?_) AllDet.nil)
          rw [if_pos (by rfl)]
          obtain ⟨o2, hst9, hfin⟩ := hback V (.int .i64 (cc + 1)) hV.bb
          refine wp_entryStore 54 (.tmp 46) (.tmp 56) (.tmp 54) rfl (.map (some cb)) (goInt stp) (.int .i64 (cc + 1)) rfl rfl rfl (setBlock V cb o2) hst9 ?_
          have hcbl := (Array.getElem?_eq_some_iff.1 hV.bb).1
          refine hK.out (fun W => Ex cb W6 W ∧ W.heap[cb]? = some o2) _ _ (fun W W' h hb => ⟨h.1.trans (Ex.of_below hb), (hb.block cb (Array.getElem?_eq_some_iff.1 h.2).1).trans h.2⟩) (no_lean (by kernel_rfl)) ⟨hV.ex.trans (Ex.setB V cb o2), heap_setBlock V cb o2 hcbl⟩ ?_
          clear hK K hV hst9 hcbl
          (try simp only [Act.put, List.getElem_toArray, List.getElem_cons_zero, List.getElem_cons_succ, List.setIfInBounds_toArray, List.set_cons_zero, List.set_cons_succ])
          refine wpDet_done (by kernel_rfl) (fun W9 hW9 => ?_) _
          obtain ⟨f', hf1, hf2⟩ := up_some f (skV x y (strOfNums xb)) (.int .i64 (cc + 1))
          have hmp9 := hfin W9 f' hW9.2 hf1 hf2
          have hnm9 := hnm6.exm hmp hW9.1 hcg hcb
          have hbw9 : Below w.heap.size w W9 := hbw6.trans ⟨hW9.1.os, hW9.1.tape, hW9.1.output, hW9.1.size, fun k hk => hW9.1.block k (Nat.lt_of_lt_of_le hk hbw6.size) (fun e => by omega)⟩
          go_wp2_with fail
          go_roundw
          case rel => exact ⟨k + 1, by omega, by go_num, m', f', hnm9, hmp9, hcn.send hsz HM.out hcf hf1 hf2, hbw9⟩
          case measure => simp [intOf]; omega
        · by_cases h2 : wrap64 ((IntKind.u64.wrap op).tmod 9) = 6 ∧ a.e = 0
          · obtain ⟨hi, hm'⟩ := kB h2
            obtain ⟨j, rfl⟩ := Int.eq_ofNat_of_zero_le hi.1
            have hj : j < (m.N x y).length := by omega
            have hm2 : m'.N = upN m.N x y (m.N x y ++ [(m.N x y).getD j ByteArray.empty]) := hm'
            have HM : Hid (m'.N = upN m.N x y (m.N x y ++ [(m.N x y).getD j ByteArray.empty])) := hm2
            have hn9 : m'.N x y = m.N x y ++ [(m.N x y).getD j ByteArray.empty] := by rw [hm2, upN_same]
            have hj9 : j < (m'.N x y).length := by rw [hn9, List.length_append]; omega
            have hg9 : (m'.N x y).getD j ByteArray.empty = (m.N x y).getD j ByteArray.empty := by
              rw [hn9, List.getD_eq_getElem?_getD, List.getElem?_append_left hj, ← List.getD_eq_getElem?_getD]
            have hsz : ((m.N x y).getD j ByteArray.empty).size ≤ 8192 := hcn.sz x y _ (by rw [List.getD_eq_getElem?_getD, List.getElem?_eq_getElem hj]; exact List.getElem_mem hj)
            obtain ⟨R6, hN6⟩ := hnm6.nb
            have hpk := Peek_ok hN6 hx hy j hj9 hg9
            have e3 : decide (wrap64 ((IntKind.u64.wrap op).tmod 9) < 3) = false := decide_eq_false (by omega)
            have q6 : (wrap64 ((IntKind.u64.wrap op).tmod 9) == 6) = true := by rw [h2.1]; rfl
            have e0 : (a.e == 0) = true := by rw [h2.2]; rfl
            clear h1 h2 hm' hm2 hn9 hg9 hj9 kA kB kC kD hr1 hu1 hN6
            generalize hts9 : (m.N x y).getD j ByteArray.empty = ts at *
            have HT : Hid ((m.N x y).getD j ByteArray.empty = ts) := hts9
            clear hts9
            go_wp2_with fail
            refine hpk.mono ?_
            rintro o W7 ⟨⟨p7, m7, c7, rfl, hr7, hu7⟩, hb7⟩
            clear hpk d0 d1 d2 d3 d4 d5
            replace hbx := hbx.below hb7
            replace hmp := hmp.kept (hb7.block cb hmp.lt)
            replace hnm6 := hnm6.below hb7
            replace hbw6 := hbw6.trans (hb7.mono hbw6.size)
            obtain ⟨d0, d1, d2, d3, d4, d5⟩ := hbx.six
            have hxc7 : ∀ a, p7 = some a → 0 < m7 → a.block ≠ cb := by
              intro a ha _ e
              obtain ⟨cs, fz, e2⟩ := hu7 a ha
              obtain ⟨es, clock, e3, _⟩ := hmp
              rw [e, e3] at e2
              cases e2
            have hts := str_nums ts
            obtain ⟨kl, hkl⟩ := skey_ok hx hy ts (Nat.le_trans hsz (by decide))
            obtain ⟨cc, hcf, hcc1, hcc2⟩ := hcn.num x y ts
            have hwr9 : IntKind.i64.wrap (cc + 1) = cc + 1 := by rw [IntKind.wrap_i64]; omega
            generalize numsOf ts = xs1 at *
            have hQ : (fun W => At 37 W gx #[.int .i64 op, .int .i64 (j : Int), .int .i64 x, .int .i64 y, .slice bq bl bc, .int .u64 s] ∧ Rd .u8 W p7 m7 c7 xs1) W7 := ⟨hbx, hr7⟩
            have hQs : Stays (fun W => At 37 W gx #[.int .i64 op, .int .i64 (j : Int), .int .i64 x, .int .i64 y, .slice bq bl bc, .int .u64 s] ∧ Rd .u8 W p7 m7 c7 xs1) := fun W W' h hb => ⟨h.1.below hb, h.2.below hb⟩
            have hQe : ∀ (V : World) (o : Obj), (fun W => At 37 W gx #[.int .i64 op, .int .i64 (j : Int), .int .i64 x, .int .i64 y, .slice bq bl bc, .int .u64 s] ∧ Rd .u8 W p7 m7 c7 xs1) V → (fun W => At 37 W gx #[.int .i64 op, .int .i64 (j : Int), .int .i64 x, .int .i64 y, .slice bq bl bc, .int .u64 s] ∧ Rd .u8 W p7 m7 c7 xs1) (setBlock V cb o) := fun V o h => ⟨h.1.ex (Ex.setB V cb o) hgxg.2.2, h.2.ex (Ex.setB V cb o) hxc7⟩
            clear hb7 hu7
            go_wp2_with fail
            have hS7 : Bl W7 W7.drew := (Below.refl _ _).drew
            refine wp_region_det [0, 1, 2, 3, 4, 5, 6, 7, 9] (fun W => (fun W => At 37 W gx #[.int .i64 op, .int .i64 (j : Int), .int .i64 x, .int .i64 y, .slice bq bl bc, .int .u64 s] ∧ Rd .u8 W p7 m7 c7 xs1) W ∧ LkIs cb (skV x y ts) cc W) (Bl W7) (by kernel_rfl) hS7 ?_
            refine wpDet_take ?vR0 (Bl.stays W7) (fun V h => ⟨hQs W7 V hQ h, lk_of (hmp.kept (h.block cb hmp.lt)) hkl hcf⟩) (i := 0) rfl (by kernel_rfl) (by kernel_rfl) (by kernel_rfl) (by kernel_rfl) (fun _ _ _ h => h) (Gives.value (by rfl) ?yR0) ?rR0
            case yR0 => (intro w' hSw; (try dsimp only at hSw); go_simp; try with_reducible rfl)
            (try simp only [Act.put, List.getElem_toArray, List.getElem_cons_zero, List.getElem_cons_succ, List.setIfInBounds_toArray, List.set_cons_zero, List.set_cons_succ])
            refine wpDet_take ?vR1 (Bl.stays W7) (fun V h => ⟨hQs W7 V hQ h, lk_of (hmp.kept (h.block cb hmp.lt)) hkl hcf⟩) (i := 1) rfl (by kernel_rfl) (by kernel_rfl) (by kernel_rfl) (by kernel_rfl) (fun _ _ _ h => h) (Gives.value (by rfl) ?yR1) ?rR1
            case yR1 => (intro w' hSw; (try dsimp only at hSw); go_simp; try with_reducible rfl)
            (try simp only [Act.put, List.getElem_toArray, List.getElem_cons_zero, List.getElem_cons_succ, List.setIfInBounds_toArray, List.set_cons_zero, List.set_cons_succ])
            refine wpDet_take _ (Bl.stays W7) (fun V h => ⟨hQs W7 V hQ h, lk_of (hmp.kept (h.block cb hmp.lt)) hkl hcf⟩) (i := 2) rfl (by kernel_rfl) (by kernel_rfl) (by kernel_rfl) (by kernel_rfl) (fun _ _ _ h => h) (Gives.of_yields (yieldsIf_load_mid (by rfl) _ _ rfl _ _ rfl _ _ (fun W h => At.mid6 h.1.1) Try.underlying33 rfl sizeLk)) ?_
            (try simp only [Act.put, List.getElem_toArray, List.getElem_cons_zero, List.getElem_cons_succ, List.setIfInBounds_toArray, List.set_cons_zero, List.set_cons_succ])
            refine wpDet_take ?vR3 (Bl.stays W7) (fun V h => ⟨hQs W7 V hQ h, lk_of (hmp.kept (h.block cb hmp.lt)) hkl hcf⟩) (i := 3) rfl (by kernel_rfl) (by kernel_rfl) (by kernel_rfl) (by kernel_rfl) (fun _ _ _ h => h) (Gives.value (by rfl) ?yR3) ?rR3
            case yR3 => (intro w' hSw; (try dsimp only at hSw); go_simp; try with_reducible rfl)
            (try simp only [Act.put, List.getElem_toArray, List.getElem_cons_zero, List.getElem_cons_succ, List.setIfInBounds_toArray, List.set_cons_zero, List.set_cons_succ])
            refine wpDet_take ?vR4 (Bl.stays W7) (fun V h => ⟨hQs W7 V hQ h, lk_of (hmp.kept (h.block cb hmp.lt)) hkl hcf⟩) (i := 4) rfl (by kernel_rfl) (by kernel_rfl) (by kernel_rfl) (by kernel_rfl) (fun _ _ _ h => h) (Gives.value (by rfl) ?yR4) ?rR4
            case yR4 => (intro w' hSw; have hz := hSw.1.2.str; rw [hts] at hz; (try dsimp only at hSw); go_simp; try with_reducible rfl)
            (try simp only [Act.put, List.getElem_toArray, List.getElem_cons_zero, List.getElem_cons_succ, List.setIfInBounds_toArray, List.set_cons_zero, List.set_cons_succ])
            refine wpDet_take ?vR5 (Bl.stays W7) (fun V h => ⟨hQs W7 V hQ h, lk_of (hmp.kept (h.block cb hmp.lt)) hkl hcf⟩) (i := 5) rfl (by kernel_rfl) (by kernel_rfl) (by kernel_rfl) (by kernel_rfl) (fun _ _ _ h => h) (Gives.value (by rfl) ?yR5) ?rR5
            case yR5 => (intro w' hSw; (try dsimp only at hSw); go_simp; try with_reducible rfl)
            (try simp only [Act.put, List.getElem_toArray, List.getElem_cons_zero, List.getElem_cons_succ, List.setIfInBounds_toArray, List.set_cons_zero, List.set_cons_succ])
            refine wpDet_take (.int .i64 cc) (Bl.stays W7) (fun V h => ⟨hQs W7 V hQ h, lk_of (hmp.kept (h.block cb hmp.lt)) hkl hcf⟩) (i := 6) rfl (by kernel_rfl) (by kernel_rfl) (by kernel_rfl) (by kernel_rfl) (fun _ _ _ h => h) (Gives.value (by rfl) ?yR6) ?rR6
            case yR6 => (intro w' hSw; have hz := hSw.2; unfold LkIs skV at hz; (try dsimp only at hSw); go_simp; try with_reducible rfl)
            (try simp only [Act.put, List.getElem_toArray, List.getElem_cons_zero, List.getElem_cons_succ, List.setIfInBounds_toArray, List.set_cons_zero, List.set_cons_succ])
            refine wpDet_take ?vR7 (Bl.stays W7) (fun V h => ⟨hQs W7 V hQ h, lk_of (hmp.kept (h.block cb hmp.lt)) hkl hcf⟩) (i := 7) rfl (by kernel_rfl) (by kernel_rfl) (by kernel_rfl) (by kernel_rfl) (fun _ _ _ h => h) (Gives.value (by rfl) ?yR7) ?rR7
            case yR7 => (intro w' hSw; (try dsimp only at hSw); go_simp; try with_reducible rfl)
            (try simp only [Act.put, List.getElem_toArray, List.getElem_cons_zero, List.getElem_cons_succ, List.setIfInBounds_toArray, List.set_cons_zero, List.set_cons_succ])
            refine wpDet_ready (rs := [8]) (by kernel_rfl) (by simp) (AllDet.cons rfl (fun V hV K hK => ?_) AllDet.nil)
            rw [if_pos (by rfl)]
            have hVb := Bl.out' hV
            have hmpV := hmp.kept (hVb.block cb hmp.lt)
            obtain ⟨stp, o1, hrun, hlk9, hback⟩ := hmpV.entryL hk9 sentLaw cmapT zeroI hkl
            rw [show _ = Value.int .i64 cc from hcf] at hrun hlk9
            have hrun' : (Instr.mapEntry 54 (.map (some cb)) (.agg #[.int .i64 x, .int .i64 y, .string ts])).run Try.prog V = .ok (.tuple #[.int .i64 cc, goInt stp]) (setBlock V cb o1) := hrun
            refine wp_value (.tuple #[.int .i64 cc, goInt stp]) (setBlock V cb o1) (by first | (go_simp; done) | (go_simp; rfl)) ?_
            have hcm : CM W7 cb o1 (fun W => At 37 W gx #[.int .i64 op, .int .i64 (j : Int), .int .i64 x, .int .i64 y, .slice bq bl bc, .int .u64 s] ∧ Rd .u8 W p7 m7 c7 xs1) (setBlock V cb o1) := CM.mk ((Ex.of_below hVb).trans (Ex.setB V cb o1)) (heap_setBlock V cb o1 hmpV.lt) (hQe V o1 (hQs W7 V hQ hVb))
            refine hK.out (CM W7 cb o1 (fun W => At 37 W gx #[.int .i64 op, .int .i64 (j : Int), .int .i64 x, .int .i64 y, .slice bq bl bc, .int .u64 s] ∧ Rd .u8 W p7 m7 c7 xs1)) _ _ (CM.stays hQs) (fun _ W h => ⟨h.q, hlk9 W h.bb⟩) hcm ?_
            clear hK K hV hVb hmpV hrun hrun' hcm
            (try simp only [Act.put, List.getElem_toArray, List.getElem_cons_zero, List.getElem_cons_succ, List.setIfInBounds_toArray, List.set_cons_zero, List.set_cons_succ])
            refine wpDet_take ?vRb9 (CM.stays hQs) (fun W h => ⟨h.q, hlk9 W h.bb⟩) (i := 9) rfl (by kernel_rfl) (by kernel_rfl) (by kernel_rfl) (by kernel_rfl) (fun _ _ _ h => h) (Gives.value (by rfl) ?yRb9) ?rRb9
            case yRb9 => (intro w' hSw; (try dsimp only at hSw); go_simp; try with_reducible rfl)
            (try simp only [Act.put, List.getElem_toArray, List.getElem_cons_zero, List.getElem_cons_succ, List.setIfInBounds_toArray, List.set_cons_zero, List.set_cons_succ])
            refine wpDet_ready (rs := [10]) (by kernel_rfl) (by simp) (AllDet.cons rfl (fun V hV K hK => ?_) AllDet.nil)
            rw [if_pos (by rfl)]
            obtain ⟨o2, hst9, hfin⟩ := hback V (.int .i64 (cc + 1)) hV.bb
            refine wp_entryStore 54 (.tmp 73) (.tmp 82) (.tmp 80) rfl (.map (some cb)) (goInt stp) (.int .i64 (cc + 1)) rfl rfl rfl (setBlock V cb o2) hst9 ?_
            have hcbl := (Array.getElem?_eq_some_iff.1 hV.bb).1
            refine hK.out (fun W => Ex cb W7 W ∧ W.heap[cb]? = some o2) _ _ (fun W W' h hb => ⟨h.1.trans (Ex.of_below hb), (hb.block cb (Array.getElem?_eq_some_iff.1 h.2).1).trans h.2⟩) (no_lean (by kernel_rfl)) ⟨hV.ex.trans (Ex.setB V cb o2), heap_setBlock V cb o2 hcbl⟩ ?_
            clear hK K hV hst9 hcbl
            (try simp only [Act.put, List.getElem_toArray, List.getElem_cons_zero, List.getElem_cons_succ, List.setIfInBounds_toArray, List.set_cons_zero, List.set_cons_succ])
            refine wpDet_done (by kernel_rfl) (fun W9 hW9 => ?_) _
            obtain ⟨f', hf1, hf2⟩ := up_some f (skV x y ts) (.int .i64 (cc + 1))
            have hmp9 := hfin W9 f' hW9.2 hf1 hf2
            have hnm9 := hnm6.exm hmp hW9.1 hcg hcb
            have hbw9 : Below w.heap.size w W9 := hbw6.trans ⟨hW9.1.os, hW9.1.tape, hW9.1.output, hW9.1.size, fun k hk => hW9.1.block k (Nat.lt_of_lt_of_le hk hbw6.size) (fun e => by omega)⟩
            go_wp2_with fail
            go_roundw
            case rel => exact ⟨k + 1, by omega, by go_num, m', f', hnm9, hmp9, hcn.send hsz (by rw [HM.out]) hcf hf1 hf2, hbw9⟩
            case measure => simp [intOf]; omega
          · have hless := kD h1 h2
            have HI : Hid (a.ok = false → OnI w B g b cb (k + 1) W6) := fun _ => ⟨m', f, hnm6, hmp.mono (Nat.le_succ k), hcn.less hless, hbw6⟩
            cases hok : a.ok with
            | true =>
              obtain ⟨hz34, hi, hmsg, hm'⟩ := kC hok
              obtain ⟨j, rfl⟩ := Int.eq_ofNat_of_zero_le hi.1
              have hj : j < (m.N x y).length := by omega
              have hmsg2 : a.msg = (m.N x y).getD j ByteArray.empty := hmsg
              have HM : Hid (m'.N = upN m.N x y ((m.N x y).eraseIdx j)) := hm'
              have hsz : ((m.N x y).getD j ByteArray.empty).size ≤ 8192 := hcn.sz x y _ (by rw [List.getD_eq_getElem?_getD, List.getElem?_eq_getElem hj]; exact List.getElem_mem hj)
              have e3 : decide (wrap64 ((IntKind.u64.wrap op).tmod 9) < 3) = false := decide_eq_false (by omega)
              have q6 : (wrap64 ((IntKind.u64.wrap op).tmod 9) == 6) = false := by rw [beq_eq_false_iff_ne]; omega
              rw [hok, if_pos rfl, hmsg2] at hr1
              have hcv9 := hr1.str
              rw [str_nums] at hcv9
              obtain ⟨ts, hts9⟩ : ∃ ts, (m.N x y).getD j ByteArray.empty = ts := ⟨_, rfl⟩
              rw [hts9] at hcv9 hsz
              have HT : Hid ((m.N x y).getD j ByteArray.empty = ts) := hts9
              obtain ⟨kl, hkl⟩ := skey_ok hx hy ts (Nat.le_trans hsz (by decide))
              obtain ⟨cc, hcf, hcc1, hcc2⟩ := hcn.num x y ts
              have hwr9 : IntKind.i64.wrap (cc - 1) = cc - 1 := by rw [IntKind.wrap_i64]; omega
              have hba8 := below_alloc W6 (.cells #[.int .i64 x, .int .i64 y, .string ts] 57)
              have hsx := At.new 57 W6 #[.int .i64 x, .int .i64 y, .string ts]
              have hgs : W6.heap.size ≠ cb := Nat.ne_of_gt hmp.lt
              replace hmp := hmp.kept (hba8.block cb hmp.lt)
              replace hnm6 := hnm6.below hba8
              replace hbw6 := hbw6.trans (hba8.mono hbw6.size)
              clear hz34 hmsg hmsg2 hm' h1 h2 kA kB kC kD hr1 hu1 HI hless hts9 hba8 hrx
              go_wp2_with fail
              generalize (W6.alloc (.cells #[.int .i64 x, .int .i64 y, .string ts] 57)) = W8 at *
              generalize W6.heap.size = gs at *
              have hQ : (fun W => At 57 W gs #[.int .i64 x, .int .i64 y, .string ts]) W8 := hsx
              have hQs : Stays (fun W => At 57 W gs #[.int .i64 x, .int .i64 y, .string ts]) := fun W W' h hb => At.below h hb
              have hQe : ∀ (V : World) (o : Obj), (fun W => At 57 W gs #[.int .i64 x, .int .i64 y, .string ts]) V → (fun W => At 57 W gs #[.int .i64 x, .int .i64 y, .string ts]) (setBlock V cb o) := fun V o h => At.ex h (Ex.setB V cb o) hgs
              have hS8 : Bl W8 W8.drew := (Below.refl _ _).drew
              refine wp_region_det [0, 1, 2, 3, 5] (fun W => (fun W => At 57 W gs #[.int .i64 x, .int .i64 y, .string ts]) W ∧ LkIs cb (skV x y ts) cc W) (Bl W8) (by kernel_rfl) hS8 ?_
              refine wpDet_take ?vU0 (Bl.stays W8) (fun V h => ⟨hQs W8 V hQ h, lk_of (hmp.kept (h.block cb hmp.lt)) hkl hcf⟩) (i := 0) rfl (by kernel_rfl) (by kernel_rfl) (by kernel_rfl) (by kernel_rfl) (fun _ _ _ h => h) (Gives.value (by rfl) ?yU0) ?rU0
              case yU0 => (intro w' hSw; (try dsimp only at hSw); go_simp; try with_reducible rfl)
              (try simp only [Act.put, List.getElem_toArray, List.getElem_cons_zero, List.getElem_cons_succ, List.setIfInBounds_toArray, List.set_cons_zero, List.set_cons_succ])
              refine wpDet_take _ (Bl.stays W8) (fun V h => ⟨hQs W8 V hQ h, lk_of (hmp.kept (h.block cb hmp.lt)) hkl hcf⟩) (i := 1) rfl (by kernel_rfl) (by kernel_rfl) (by kernel_rfl) (by kernel_rfl) (fun _ _ _ h => h) (Gives.of_yields (yieldsIf_load_mid (by rfl) _ _ rfl _ _ rfl _ _ (fun W h => At.all3 h.1) Try.underlying57 rfl sizeSt)) ?_
              (try simp only [Act.put, List.getElem_toArray, List.getElem_cons_zero, List.getElem_cons_succ, List.setIfInBounds_toArray, List.set_cons_zero, List.set_cons_succ])
              refine wpDet_take (.int .i64 cc) (Bl.stays W8) (fun V h => ⟨hQs W8 V hQ h, lk_of (hmp.kept (h.block cb hmp.lt)) hkl hcf⟩) (i := 2) rfl (by kernel_rfl) (by kernel_rfl) (by kernel_rfl) (by kernel_rfl) (fun _ _ _ h => h) (Gives.value (by rfl) ?yU2) ?rU2
              case yU2 => (intro w' hSw; have hz := hSw.2; unfold LkIs skV at hz; (try dsimp only at hSw); go_simp; try with_reducible rfl)
              (try simp only [Act.put, List.getElem_toArray, List.getElem_cons_zero, List.getElem_cons_succ, List.setIfInBounds_toArray, List.set_cons_zero, List.set_cons_succ])
              refine wpDet_take ?vU3 (Bl.stays W8) (fun V h => ⟨hQs W8 V hQ h, lk_of (hmp.kept (h.block cb hmp.lt)) hkl hcf⟩) (i := 3) rfl (by kernel_rfl) (by kernel_rfl) (by kernel_rfl) (by kernel_rfl) (fun _ _ _ h => h) (Gives.value (by rfl) ?yU3) ?rU3
              case yU3 => (intro w' hSw; (try dsimp only at hSw); go_simp; try with_reducible rfl)
              (try simp only [Act.put, List.getElem_toArray, List.getElem_cons_zero, List.getElem_cons_succ, List.setIfInBounds_toArray, List.set_cons_zero, List.set_cons_succ])
              refine wpDet_ready (rs := [4]) (by kernel_rfl) (by simp) (AllDet.cons rfl (fun V hV K hK => ?_) AllDet.nil)
              rw [if_pos (by rfl)]
              have hVb := Bl.out' hV
              have hmpV := hmp.kept (hVb.block cb hmp.lt)
              obtain ⟨stp, o1, hrun, hlk9, hback⟩ := hmpV.entryL hk9 sentLaw cmapT zeroI hkl
              rw [show _ = Value.int .i64 cc from hcf] at hrun hlk9
              have hrun' : (Instr.mapEntry 54 (.map (some cb)) (.agg #[.int .i64 x, .int .i64 y, .string ts])).run Try.prog V = .ok (.tuple #[.int .i64 cc, goInt stp]) (setBlock V cb o1) := hrun
              refine wp_value (.tuple #[.int .i64 cc, goInt stp]) (setBlock V cb o1) (by first | (go_simp; done) | (go_simp; rfl)) ?_
              have hcm : CM W8 cb o1 (fun W => At 57 W gs #[.int .i64 x, .int .i64 y, .string ts]) (setBlock V cb o1) := CM.mk ((Ex.of_below hVb).trans (Ex.setB V cb o1)) (heap_setBlock V cb o1 hmpV.lt) (hQe V o1 (hQs W8 V hQ hVb))
              refine hK.out (CM W8 cb o1 (fun W => At 57 W gs #[.int .i64 x, .int .i64 y, .string ts])) _ _ (CM.stays hQs) (fun _ W h => ⟨h.q, hlk9 W h.bb⟩) hcm ?_
              clear hK K hV hVb hmpV hrun hrun' hcm
              (try simp only [Act.put, List.getElem_toArray, List.getElem_cons_zero, List.getElem_cons_succ, List.setIfInBounds_toArray, List.set_cons_zero, List.set_cons_succ])
              refine wpDet_take ?vUb5 (CM.stays hQs) (fun W h => ⟨h.q, hlk9 W h.bb⟩) (i := 5) rfl (by kernel_rfl) (by kernel_rfl) (by kernel_rfl) (by kernel_rfl) (fun _ _ _ h => h) (Gives.value (by rfl) ?yUb5) ?rUb5
              case yUb5 => (intro w' hSw; (try dsimp only at hSw); go_simp; try with_reducible rfl)
              (try simp only [Act.put, List.getElem_toArray, List.getElem_cons_zero, List.getElem_cons_succ, List.setIfInBounds_toArray, List.set_cons_zero, List.set_cons_succ])
              refine wpDet_ready (rs := [6]) (by kernel_rfl) (by simp) (AllDet.cons rfl (fun V hV K hK => ?_) AllDet.nil)
              rw [if_pos (by rfl)]
              obtain ⟨o2, hst9, hfin⟩ := hback V (.int .i64 (cc - 1)) hV.bb
              refine wp_entryStore 54 (.tmp 90) (.tmp 95) (.tmp 93) rfl (.map (some cb)) (goInt stp) (.int .i64 (cc - 1)) rfl rfl rfl (setBlock V cb o2) hst9 ?_
              have hcbl := (Array.getElem?_eq_some_iff.1 hV.bb).1
              refine hK.out (fun W => Ex cb W8 W ∧ W.heap[cb]? = some o2) _ _ (fun W W' h hb => ⟨h.1.trans (Ex.of_below hb), (hb.block cb (Array.getElem?_eq_some_iff.1 h.2).1).trans h.2⟩) (no_lean (by kernel_rfl)) ⟨hV.ex.trans (Ex.setB V cb o2), heap_setBlock V cb o2 hcbl⟩ ?_
              clear hK K hV hst9 hcbl
              (try simp only [Act.put, List.getElem_toArray, List.getElem_cons_zero, List.getElem_cons_succ, List.setIfInBounds_toArray, List.set_cons_zero, List.set_cons_succ])
              refine wpDet_done (by kernel_rfl) (fun W9 hW9 => ?_) _
              obtain ⟨f', hf1, hf2⟩ := up_some f (skV x y ts) (.int .i64 (cc - 1))
              have hmp9 := hfin W9 f' hW9.2 hf1 hf2
              have hnm9 := hnm6.exm hmp hW9.1 hcg hcb
              have hbw9 : Below w.heap.size w W9 := hbw6.trans ⟨hW9.1.os, hW9.1.tape, hW9.1.output, hW9.1.size, fun k hk => hW9.1.block k (Nat.lt_of_lt_of_le hk hbw6.size) (fun e => by omega)⟩
              have hsx9 := hsx.ex hW9.1 hgs
              obtain ⟨s0, s1, s2⟩ := hsx9.three
              obtain ⟨hcn9, hpos⟩ := hcn.take hj HT.out HM.out hcf hf1 hf2
              have hlk := hmp9.look (Keyed.of_law sentLaw) cmapT (zeroI W9) hkl
              rw [hf1] at hlk
              unfold skV at hlk
              have hlk2 : (Instr.lookup 54 (.map (some cb)) (.agg #[.int .i64 x, .int .i64 y, .string ts]) false).run Try.prog W9 = .ok (.int .i64 (cc - 1)) W9 := hlk
              have hng : decide (cc - 1 < 0) = false := decide_eq_false (by omega)
              have HC : Hid (OnI w B g b cb (k + 1) W9) := show OnI w B g b cb (k + 1) W9 from ⟨m', f', hnm9, hmp9, hcn9, hbw9⟩
              clear hlk hcn9 hmp9 hnm9 hbw9 hpos hf1 hf2 hcf hcc1 hcc2
              go_wp2_with fail
              go_roundw
              case rel => exact ⟨k + 1, by omega, by go_num, HC.out⟩
              case measure => simp [intOf]; omega
            | false =>
              have hrel := HI.out hok
              clear HI hless kA kB kC kD hr1 hu1 hnm6 hmp hcn
              by_cases z3 : wrap64 ((IntKind.u64.wrap op).tmod 9) < 3
              · have e3 : decide (wrap64 ((IntKind.u64.wrap op).tmod 9) < 3) = true := decide_eq_true z3
                have e0 : (a.e == 0) = false := by rw [beq_eq_false_iff_ne]; exact fun e => h1 ⟨z3, e⟩
                have q6 : (wrap64 ((IntKind.u64.wrap op).tmod 9) == 6) = false := by rw [beq_eq_false_iff_ne]; omega
                clear h1 h2 z3
                go_wp2_with fail
                go_roundw
                case rel => exact ⟨k + 1, by omega, by go_num, hrel⟩
                case measure => simp [intOf]; omega
              · have e3 : decide (wrap64 ((IntKind.u64.wrap op).tmod 9) < 3) = false := decide_eq_false z3
                by_cases z6 : wrap64 ((IntKind.u64.wrap op).tmod 9) = 6
                · have q6 : (wrap64 ((IntKind.u64.wrap op).tmod 9) == 6) = true := by rw [z6]; rfl
                  have e0 : (a.e == 0) = false := by rw [beq_eq_false_iff_ne]; exact fun e => h2 ⟨z6, e⟩
                  clear h1 h2 z3 z6
                  go_wp2_with fail
                  go_roundw
                  case rel => exact ⟨k + 1, by omega, by go_num, hrel⟩
                  case measure => simp [intOf]; omega
                · have q6 : (wrap64 ((IntKind.u64.wrap op).tmod 9) == 6) = false := by rw [beq_eq_false_iff_ne]; exact z6
                  clear h1 h2 z3 z6
                  go_wp2_with fail
                  go_roundw
                  case rel => exact ⟨k + 1, by omega, by go_num, hrel⟩
                  case measure => simp [intOf]; omega
      · obtain rfl : k = n := by omega
        go_wp2_with fail
        refine (hW _).mono ?_
        rintro o w9 ⟨rfl, hb9⟩
        go_wp2_with fail
        go_ret
        exact ⟨rfl, hbw.trans (hb9.mono hbw.size)⟩

end Go.Proofs.Yteajhidhfmhcfaa.M
