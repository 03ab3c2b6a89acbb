/-
  Own text: Put, Sync and Save of a tape in plain words, whatever comes of them.
-/
import Derived.Test.YtpjhadaiodnnaaaTPut3
namespace Go.Proofs.Ytpjhadaiodnnaaa.M
open Go.ChangeShapes Go.WideShapes Go.ChangeAt Go.RowKit
set_option linter.unusedSimpArgs false

/-- Put: what is answered, the disk and the tape then. -/
def ptT (m : PD) (t : TP) (xs : List Int) : Int × PD × TP :=
  if 8192 < xs.length then (4, m, t) else ((ptM m t.file (sealL xs)).2, (ptM m t.file (sealL xs)).1, if (ptM m t.file (sealL xs)).2 = 0 then ⟨t.file, t.kept, ⟨t.r.gen, t.r.base, t.r.recs ++ [xs]⟩⟩ else t)

/-- Sync. -/
def syT (m : PD) (t : TP) : Int × PD × TP := (goneE (m.gone 1), m.syncAt t.file, if goneE (m.gone 1) = 0 then ⟨t.file, t.r.recs.length, t.r⟩ else t)

/-- Save. -/
def svT (m : PD) (t : TP) (base : List Int) (recs : List (List Int)) : Int × PD × TP :=
  if 1099511627776 ≤ t.r.gen then (5, m, t) else if fitsR base.length recs = false then (4, m, t) else
    ((wrM m (1 - t.file) (sealR ⟨t.r.gen + 1, base, recs⟩)).2, (wrM m (1 - t.file) (sealR ⟨t.r.gen + 1, base, recs⟩)).1, if (wrM m (1 - t.file) (sealR ⟨t.r.gen + 1, base, recs⟩)).2 = 0 then ⟨1 - t.file, recs.length, ⟨t.r.gen + 1, base, recs⟩⟩ else t)

theorem TSo.blk {w : World} {L a g gt : Nat} {m : PD} {t : TP} (h : TSo w L a g gt m t) : w.cell? ⟨gt, 0, none⟩ = some (.pointer (some ⟨g, 0, none⟩)) ∧ w.cell? ⟨gt, 3, none⟩ = some (.int .i64 t.r.gen) := by
  obtain ⟨own, d, pb, nb, cb, pr, cr, vs, Bv, h1, h2, h3, h4, h5⟩ := h
  exact ⟨h2.blk.cell 0, h2.blk.cell 3⟩

theorem TSo.lw {w : World} {L a g gt : Nat} {m : PD} {t : TP} (h : TSo w L a g gt m t) : L ≤ w.heap.size := by
  obtain ⟨own, d, pb, nb, cb, pr, cr, vs, Bv, h1, h2, h3, h4, h5⟩ := h
  exact h1.lw

/-- The same, its marks told. -/
def TSx (w : World) (L a g gt : Nat) (own : Nat → Nat) (m : PD) (t : TP) : Prop := ∃ d pb nb cb pr cr vs Bv, DS w L a g own d m ∧ TB w own g gt t pb nb cb pr cr vs ∧ L ≤ gt ∧ TO w own Bv g gt t pb nb cb pr cr vs ∧ Bv ≤ w.heap.size

theorem TSx.o {w : World} {L a g gt : Nat} {own : Nat → Nat} {m : PD} {t : TP} (h : TSx w L a g gt own m t) : TSo w L a g gt m t := ⟨own, h⟩
theorem TSo.x {w : World} {L a g gt : Nat} {m : PD} {t : TP} (h : TSo w L a g gt m t) : ∃ own, TSx w L a g gt own m t := h

theorem TSx.below {w w' : World} {L a g gt : Nat} {own : Nat → Nat} {m : PD} {t : TP} (h : TSx w L a g gt own m t) (hb : Below w.heap.size w w') : TSx w' L a g gt own m t := by
  obtain ⟨d, pb, nb, cb, pr, cr, vs, Bv, h1, h2, h3, h4, h5⟩ := h
  exact ⟨d, pb, nb, cb, pr, cr, vs, Bv, h1.below hb, h2.below hb, h3, h4.below hb, Nat.le_trans h5 hb.size⟩

/-- What is no block of a disk, a tape or what they made. -/
def Fgn (own : Nat → Nat) (g k : Nat) : Prop := own k = 0 ∧ k ≠ g

theorem TSx.new {w : World} {L a g gt : Nat} {own : Nat → Nat} {m : PD} {t : TP} (h : TSx w L a g gt own m t) {k : Nat} (hk : w.heap.size ≤ k) : Fgn own g k := by
  obtain ⟨d, pb, nb, cb, pr, cr, vs, Bv, h1, h2, h3, h4, h5⟩ := h
  exact ⟨h1.da.fr k hk, by have := h1.da.dc.lt; omega⟩

theorem TSx.old {w : World} {L a g gt : Nat} {own : Nat → Nat} {m : PD} {t : TP} (h : TSx w L a g gt own m t) {k : Nat} (hk : k < L) : Fgn own g k := by
  obtain ⟨d, pb, nb, cb, pr, cr, vs, Bv, h1, h2, h3, h4, h5⟩ := h
  exact ⟨h1.low k hk, by have := h1.lg; omega⟩

theorem Fgn.to {own own2 : Nat → Nat} {g k n : Nat} (h : Fgn own g k) (hk : k < n) (ho : ∀ k, k < n → own2 k = own k) : Fgn own2 g k := ⟨(ho k hk).trans h.1, h.2⟩

theorem mine_no {own : Nat → Nat} {a g gt i k : Nat} (hf : Fre own g gt) (e : k = g ∨ k = gt ∨ own k = mark a i) : ¬ Fgn own g k := fun h => by
  rcases e with e | e | e
  · exact h.2 e
  · rw [e] at h; have h1 := hf.1; rw [h.1] at h1; cases h1
  · rw [h.1] at e; unfold mark at e; omega

/-- Put of a tape. -/
theorem Put_S (w0 w : World) (L a g gt : Nat) (own : Nat → Nat) (m : PD) (t : TP) (s : Nat) (ha : a ≤ 100) (hT : TSx w0 L a g gt own m t) (hbw : Below w0.heap.size w0 w) (hm : Fit m s) (hs : s ≤ 274877906944) (hfile : t.file ≤ 1) (hcount : t.r.recs.length < 1000000)
    (pa : Option Addr) (na ca : Nat) (xs : List Int) (hpa : Rd .u8 w pa na ca xs) (hby : By xs) (hda : ∀ x, pa = some x → 0 < na → Fgn own g x.block) :
    Calls Try.prog 23 #[.pointer (some ⟨gt, 0, none⟩), .slice pa na ca] w fun e w' => e = .returned (.int .i64 (ptT m t xs).1) ∧ ∃ own2, TSx w' L a g gt own2 (ptT m t xs).2.1 (ptT m t xs).2.2 ∧ (∀ k, k < w.heap.size → own2 k = own k) ∧ Ch (fun k => ¬ Fgn own g k) w w' := by
  have hl := hpa.len
  have hT1 := hT.below hbw
  by_cases hna : 8192 < na
  · have e1 : ptT m t xs = (4, m, t) := by unfold ptT; rw [if_pos (by omega)]
    rw [e1]
    refine (TPut_long w gt g hT1.o.blk.1 pa na ca hna).mono ?_
    rintro e w' ⟨rfl, hb⟩
    exact ⟨rfl, own, hT1.below hb, fun _ _ => rfl, Ch.of_below hb _⟩
  · have e1 : ptT m t xs = ((ptM m t.file (sealL xs)).2, (ptM m t.file (sealL xs)).1, if (ptM m t.file (sealL xs)).2 = 0 then ⟨t.file, t.kept, ⟨t.r.gen, t.r.base, t.r.recs ++ [xs]⟩⟩ else t) := by unfold ptT; rw [if_neg (by omega)]
    rw [e1]
    obtain ⟨d, pb, nb, cb, pr, cr, vs, Bv, hD0, hB0, hgt, hO0, hBv0⟩ := hT
    have hD := hD0.below hbw
    have hgl : g < w0.heap.size := hD0.da.dc.lt
    refine (TPut_any w L own a g d m ha hD.da s hm hs hD.lw gt t pb nb cb pr cr vs (hB0.below hbw) hfile Bv (Nat.le_trans hBv0 hbw.size) (hO0.below hbw) hcount pa na ca xs hpa hby (by omega) (fun x e h0 => ?_)).mono ?_
    · have h1 := hda x e h0
      exact ⟨fun e2 => by rw [h1.1] at e2; unfold mark at e2; omega, h1.2⟩
    · rintro e w' ⟨rfl, own2, d2, h1, h4, h5, hh⟩
      have hBel : Ch (fun k => ¬ Fgn own g k) w w' := h5.mono fun k hk e => by
        rcases e with e | e | e | ⟨x, e, hc, ex⟩
        · exact mine_no (i := 0) (a := 0) hB0.fg (Or.inl e)
        · exact mine_no (i := 0) (a := 0) hB0.fg (Or.inr (Or.inl e))
        · exact mine_no hB0.fg (Or.inr (Or.inr e))
        · have h6 := (hO0.fv x e hc).1.1
          rw [← ex] at h6
          intro h7
          rw [h7.1] at h6
          cases h6
      have hBv : Bv ≤ w'.heap.size := Nat.le_trans (Nat.le_trans hBv0 hbw.size) h5.size
      rcases hh with ⟨hz, pr2, cr2, q, c, h2, h3⟩ | ⟨hz, h2, h3⟩
      · rw [if_pos hz]
        exact ⟨rfl, own2, ⟨d2, pb, nb, cb, pr2, cr2, vs ++ [.slice q na c], Bv, hD.mv h1 h5.size h4, h2, hgt, h3, hBv⟩, h4, hBel⟩
      · rw [if_neg hz]
        exact ⟨rfl, own2, ⟨d2, pb, nb, cb, pr, cr, vs, Bv, hD.mv h1 h5.size h4, h2, hgt, h3, hBv⟩, h4, hBel⟩

/-- Sync of a tape. -/
theorem Sync_S (w : World) (L a g gt : Nat) (own : Nat → Nat) (m : PD) (t : TP) (s : Nat) (ha : a ≤ 100) (hT : TSx w L a g gt own m t) (hm : Fit m s) (hs : s ≤ 274877906944) (hfile : t.file ≤ 1) :
    Calls Try.prog 20 #[.pointer (some ⟨gt, 0, none⟩)] w fun e w' => e = .returned (.int .i64 (syT m t).1) ∧ ∃ own2, TSx w' L a g gt own2 (syT m t).2.1 (syT m t).2.2 ∧ (∀ k, k < w.heap.size → own2 k = own k) ∧ Ch (fun k => ¬ Fgn own g k) w w' := by
  obtain ⟨d, pb, nb, cb, pr, cr, vs, Bv, hD, hB, hgt, hO, hBv⟩ := hT
  refine (TSync_any w L own a g d m ha hD.da s hm hs gt t pb nb cb pr cr vs hB hfile).mono ?_
  rintro e w' ⟨rfl, own2, d2, h1, h3, h4, hh⟩
  have hO2 : TO w' own2 Bv g gt t pb nb cb pr cr vs := hO.ch h4 (fun k hf hn e => by
    rcases e with e | e | e
    · exact hf.2 e
    · exact hn e
    · exact far_mark ha (show t.file < 8 by omega) (by rw [← e, hf.1])) (fun k hk e => (h3 k hk).trans e)
  have hBel : Ch (fun k => ¬ Fgn own g k) w w' := h4.mono fun k _ e => mine_no hB.fg e
  unfold syT
  rcases hh with ⟨hz, h2⟩ | ⟨hz, h2⟩
  · rw [if_pos hz]
    exact ⟨rfl, own2, ⟨d2, pb, nb, cb, pr, cr, vs, Bv, hD.mv h1 h4.size h3, h2, hgt, ⟨hO2.bas, hO2.fb, hO2.rcs, hO2.fv, hO2.sls, hO2.fs⟩, Nat.le_trans hBv h4.size⟩, h3, hBel⟩
  · rw [if_neg hz]
    exact ⟨rfl, own2, ⟨d2, pb, nb, cb, pr, cr, vs, Bv, hD.mv h1 h4.size h3, h2, hgt, hO2, Nat.le_trans hBv h4.size⟩, h3, hBel⟩

theorem fits_yes {n : Nat} {recs : List (List Int)} (h : ¬ fitsR n recs = false) : n ≤ 8176 ∧ ∀ i, i < recs.length → (recs.getD i []).length ≤ 8192 := by
  have h1 : fitsR n recs = true := by
    cases h2 : fitsR n recs with
    | true => rfl
    | false => exact absurd h2 h
  unfold fitsR at h1
  rw [Bool.and_eq_true] at h1
  exact ⟨of_decide_eq_true h1.1, shortV_get h1.2⟩

/-- Save of a tape. -/
theorem Save_T (w : World) (L a g gt : Nat) (own : Nat → Nat) (m : PD) (t : TP) (s : Nat) (ha : a ≤ 100) (hT : TSx w L a g gt own m t) (hm : Fit m s) (hs : s ≤ 274877906944) (hfile : t.file ≤ 1) (hgen : 0 ≤ t.r.gen)
    (pa : Option Addr) (na ca : Nat) (base : List Int) (hpa : Rd .u8 w pa na ca base) (hby : By base) (pl : Option Addr) (nl cl : Nat) (us : List Value) (recs : List (List Int)) (hpl : RdV w pl nl cl us) (hus : Sls w us recs) (hnl : nl = recs.length) (hfew : nl ≤ 1000000) (hrec : ∀ i, i < recs.length → By (recs.getD i [])) :
    Calls Try.prog 21 #[.pointer (some ⟨gt, 0, none⟩), .slice pa na ca, .slice pl nl cl] w fun e w' => e = .returned (.int .i64 (svT m t base recs).1) ∧ ∃ own2, TSx w' L a g gt own2 (svT m t base recs).2.1 (svT m t base recs).2.2 ∧ (∀ k, k < w.heap.size → own2 k = own k) ∧ Ch (fun k => ¬ Fgn own g k) w w' := by
  have hl := hpa.len
  by_cases h40 : 1099511627776 ≤ t.r.gen
  · have e1 : svT m t base recs = (5, m, t) := by unfold svT; rw [if_pos h40]
    rw [e1]
    refine (Save_range w gt g t.r.gen hT.o.blk.1 hT.o.blk.2 h40 pa na ca pl nl cl).mono ?_
    rintro e w' ⟨rfl, rfl⟩
    exact ⟨rfl, own, hT, fun _ _ => rfl, Ch.refl _ _⟩
  · by_cases hfit : fitsR base.length recs = false
    · have e1 : svT m t base recs = (4, m, t) := by unfold svT; rw [if_neg h40, if_pos hfit]
      rw [e1]
      refine (Save_long w gt g t.r.gen hT.o.blk.1 hT.o.blk.2 (by omega) pa na ca pl nl cl us recs hpl hus hnl hfew (by rw [← hl]; exact hfit)).mono ?_
      rintro e w' ⟨rfl, hb⟩
      exact ⟨rfl, own, hT.below hb, fun _ _ => rfl, Ch.of_below hb _⟩
    · have e1 : svT m t base recs = ((wrM m (1 - t.file) (sealR ⟨t.r.gen + 1, base, recs⟩)).2, (wrM m (1 - t.file) (sealR ⟨t.r.gen + 1, base, recs⟩)).1, if (wrM m (1 - t.file) (sealR ⟨t.r.gen + 1, base, recs⟩)).2 = 0 then ⟨1 - t.file, recs.length, ⟨t.r.gen + 1, base, recs⟩⟩ else t) := by unfold svT; rw [if_neg h40, if_neg hfit]
      rw [e1]
      obtain ⟨hf1, hf2⟩ := fits_yes hfit
      obtain ⟨d, pb, nb, cb, pr, cr, vs, Bv, hD, hB, hgt, hO, hBv⟩ := hT
      refine (Save_any w L own a g d m ha hD.da s hm hs hD.lw gt t pb nb cb pr cr vs hB hfile ⟨hgen, by omega⟩ pa na ca base hpa hby (by omega) pl nl cl us recs hpl hus hnl hfew (fun i hi => ⟨hrec i hi, hf2 i hi⟩)).mono ?_
      rintro e w' ⟨rfl, own2, d2, h1, h3, h4, hh⟩
      have hBel : Ch (fun k => ¬ Fgn own g k) w w' := h4.mono fun k _ e => mine_no hB.fg e
      rcases hh with ⟨hz, qb, mb, db, qr, dr, us2, h2, h5⟩ | ⟨hz, h2⟩
      · rw [if_pos hz, ← hnl]
        exact ⟨rfl, own2, ⟨d2, qb, mb, db, qr, dr, us2, w.heap.size, hD.mv h1 h4.size h3, h2, hgt, h5, h4.size⟩, h3, hBel⟩
      · rw [if_neg hz]
        have hO2 : TO w' own2 Bv g gt t pb nb cb pr cr vs := hO.ch h4 (fun k hf hn e => by
          rcases e with e | e | e
          · exact hf.2 e
          · exact hn e
          · exact far_mark ha (show 1 - t.file < 8 by omega) (by rw [← e, hf.1])) (fun k hk e => (h3 k hk).trans e)
        exact ⟨rfl, own2, ⟨d2, pb, nb, cb, pr, cr, vs, Bv, hD.mv h1 h4.size h3, h2, hgt, hO2, Nat.le_trans hBv h4.size⟩, h3, hBel⟩

theorem Ch.lowB {w w' : World} {L a g gt : Nat} {own : Nat → Nat} {m : PD} {t : TP} (h : Ch (fun k => ¬ Fgn own g k) w w') (hT : TSx w L a g gt own m t) : Below L w w' := h.lowL hT.o.lw fun _ hk e => e (hT.old hk)

end Go.Proofs.Ytpjhadaiodnnaaa.M
