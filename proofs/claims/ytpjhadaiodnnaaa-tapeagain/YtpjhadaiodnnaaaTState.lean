/-
  Own text: a disk and a tape over it, in one condition; what the tape's calls make of it where they are done.
-/
import Derived.Test.YtpjhadaiodnnaaaTOpen
import Derived.Test.YtpjhadaiodnnaaaTRec
namespace Go.Proofs.Ytpjhadaiodnnaaa.M
open Go.ChangeShapes Go.WideShapes Go.ChangeAt Go.RowKit
set_option linter.unusedSimpArgs false

/-- A disk in block g, all its memory from block L on. -/
structure DS (w : World) (L a g : Nat) (own : Nat → Nat) (d : Dk) (m : PD) : Prop where
  da : DA w L own a g d m
  lw : L ≤ w.heap.size
  lg : L ≤ g
  low : ∀ k, k < L → own k = 0

/-- A disk and a tape in block gt. -/
def TSt (w : World) (L a g gt : Nat) (m : PD) (t : TP) : Prop := ∃ own d pb nb cb pr cr vs, DS w L a g own d m ∧ TB w own g gt t pb nb cb pr cr vs ∧ L ≤ gt

/-- The same, and the tape may append. -/
def TSo (w : World) (L a g gt : Nat) (m : PD) (t : TP) : Prop := ∃ own d pb nb cb pr cr vs Bv, DS w L a g own d m ∧ TB w own g gt t pb nb cb pr cr vs ∧ L ≤ gt ∧ TO w own Bv g gt t pb nb cb pr cr vs ∧ Bv ≤ w.heap.size

theorem TSo.t {w : World} {L a g gt : Nat} {m : PD} {t : TP} (h : TSo w L a g gt m t) : TSt w L a g gt m t := by
  obtain ⟨own, d, pb, nb, cb, pr, cr, vs, Bv, h1, h2, h3, h4, h5⟩ := h
  exact ⟨own, d, pb, nb, cb, pr, cr, vs, h1, h2, h3⟩

theorem DS.below {w w' : World} {L a g : Nat} {own : Nat → Nat} {d : Dk} {m : PD} (h : DS w L a g own d m) (hb : Below w.heap.size w w') : DS w' L a g own d m := ⟨h.da.below hb, Nat.le_trans h.lw hb.size, h.lg, h.low⟩

theorem TSt.below {w w' : World} {L a g gt : Nat} {m : PD} {t : TP} (h : TSt w L a g gt m t) (hb : Below w.heap.size w w') : TSt w' L a g gt m t := by
  obtain ⟨own, d, pb, nb, cb, pr, cr, vs, h1, h2, h3⟩ := h
  exact ⟨own, d, pb, nb, cb, pr, cr, vs, h1.below hb, h2.below hb, h3⟩

theorem TSo.below {w w' : World} {L a g gt : Nat} {m : PD} {t : TP} (h : TSo w L a g gt m t) (hb : Below w.heap.size w w') : TSo w' L a g gt m t := by
  obtain ⟨own, d, pb, nb, cb, pr, cr, vs, Bv, h1, h2, h3, h4, h5⟩ := h
  exact ⟨own, d, pb, nb, cb, pr, cr, vs, Bv, h1.below hb, h2.below hb, h3, h4.below hb, Nat.le_trans h5 hb.size⟩

/-- Nothing below L is touched. -/
theorem Ch.lowL {S : Nat → Prop} {w w' : World} {L : Nat} (h : Ch S w w') (hL : L ≤ w.heap.size) (hs : ∀ k, k < L → ¬ S k) : Below L w w' := ⟨h.os, h.tape, h.output, h.size, fun k hk => h.block k (Nat.lt_of_lt_of_le hk hL) (hs k hk)⟩

theorem DS.no {w : World} {L a g gt i k : Nat} {own : Nat → Nat} {d : Dk} {m : PD} (h : DS w L a g own d m) (hgt : L ≤ gt) (hk : k < L) : ¬ (k = g ∨ k = gt ∨ own k = mark a i) := fun e => by
  have h1 := h.lg
  rcases e with e | e | e
  · omega
  · omega
  · rw [h.low k hk] at e
    unfold mark at e
    omega

theorem DS.mv {w w' : World} {L a g : Nat} {own own2 : Nat → Nat} {d d2 : Dk} {m m2 : PD} (h : DS w L a g own d m) (h2 : DA w' L own2 a g d2 m2) (hs : w.heap.size ≤ w'.heap.size) (ho : ∀ k, k < w.heap.size → own2 k = own k) : DS w' L a g own2 d2 m2 :=
  ⟨h2, Nat.le_trans h.lw hs, h.lg, fun k hk => (ho k (Nat.lt_of_lt_of_le hk h.lw)).trans (h.low k hk)⟩

/-- What Save makes of a disk. -/
def svM (m : PD) (i : Nat) (r : PR) : PD := { m with f := upP m.f i ⟨sealR r, sealR r, false⟩ }

/-- The room that Save asks for. -/
def svN (m : PD) (i : Nat) (r : PR) : Nat := ({ m with f := upP m.f i ⟨[], (m.f i).lasts, true⟩ } : PD).used + (sealR r).length

theorem Save_S (w : World) (L a g gt : Nat) (m : PD) (t : TP) (ha : a ≤ 100) (hT : TSt w L a g gt m t) (hm : Good m) (hfile : t.file ≤ 1) (hgen : 0 ≤ t.r.gen ∧ t.r.gen < 1099511627776)
    (pa : Option Addr) (na ca : Nat) (base : List Int) (hpa : Rd .u8 w pa na ca base) (hby : By base) (hna : na ≤ 8176) (pl : Option Addr) (nl cl : Nat) (us : List Value) (recs : List (List Int)) (hpl : RdV w pl nl cl us) (hus : Sls w us recs) (hnl : nl = recs.length) (hfew : nl ≤ 1000000) (hrec : ∀ i, i < recs.length → By (recs.getD i []) ∧ (recs.getD i []).length ≤ 8192)
    (hroom : svN m (1 - t.file) ⟨t.r.gen + 1, base, recs⟩ ≤ m.room) :
    Calls Try.prog 21 #[.pointer (some ⟨gt, 0, none⟩), .slice pa na ca, .slice pl nl cl] w fun e w' => e = .returned (.int .i64 0) ∧ TSo w' L a g gt (svM m (1 - t.file) ⟨t.r.gen + 1, base, recs⟩) ⟨1 - t.file, nl, ⟨t.r.gen + 1, base, recs⟩⟩ ∧ Below L w w' := by
  obtain ⟨own, d, pb, nb, cb, pr, cr, vs, hD, hB, hgt⟩ := hT
  refine (Save_ok w L own a g d m ha hD.da hm hD.lw gt t pb nb cb pr cr vs hB hfile hgen pa na ca base hpa hby hna pl nl cl us recs hpl hus hnl hfew hrec hroom).mono ?_
  rintro e w' ⟨rfl, own2, d2, qb, mb, db, qr, dr, us2, h1, h2, h3, h4, h5⟩
  exact ⟨rfl, ⟨own2, d2, qb, mb, db, qr, dr, us2, w.heap.size, hD.mv h1 h5.size h4, h2, hgt, h3, h5.size⟩, h5.lowL hD.lw fun k hk => hD.no hgt hk⟩

theorem TSync_S (w : World) (L a g gt : Nat) (m : PD) (t : TP) (ha : a ≤ 100) (hT : TSo w L a g gt m t) (hm : Good m) (hfile : t.file ≤ 1) :
    Calls Try.prog 20 #[.pointer (some ⟨gt, 0, none⟩)] w fun e w' => e = .returned (.int .i64 0) ∧ TSo w' L a g gt { m with f := upP m.f t.file ⟨(m.f t.file).told, (m.f t.file).told, false⟩ } ⟨t.file, t.r.recs.length, t.r⟩ ∧ Below L w w' := by
  obtain ⟨own, d, pb, nb, cb, pr, cr, vs, Bv, hD, hB, hgt, hO, hBv⟩ := hT
  refine (TSync_ok w L own a g d m ha hD.da hm gt t pb nb cb pr cr vs hB hfile).mono ?_
  rintro e w' ⟨rfl, own2, d2, h1, h2, h3, h4⟩
  have hO2 : TO w' own2 Bv g gt t pb nb cb pr cr vs := hO.ch h4 (fun k hf hn e => by
    rcases e with e | e | e
    · exact hf.2 e
    · exact hn e
    · exact far_mark ha (show t.file < 8 by omega) (by rw [← e, hf.1])) (fun k hk e => (h3 k hk).trans e)
  exact ⟨rfl, ⟨own2, d2, pb, nb, cb, pr, cr, vs, Bv, hD.mv h1 h4.size h3, h2, hgt, ⟨hO2.bas, hO2.fb, hO2.rcs, hO2.fv, hO2.sls, hO2.fs⟩, Nat.le_trans hBv h4.size⟩, h4.lowL hD.lw fun k hk => hD.no hgt hk⟩

theorem TPut_S (w0 w : World) (L a g gt : Nat) (m : PD) (t : TP) (ha : a ≤ 100) (hT : TSo w0 L a g gt m t) (hbw : Below w0.heap.size w0 w) (hm : Good m) (hfile : t.file ≤ 1) (hcount : t.r.recs.length < 1000000)
    (pa : Option Addr) (na ca : Nat) (xs : List Int) (hpa : Rd .u8 w pa na ca xs) (hby : By xs) (hna : na ≤ 8192) (hda : ∀ x, pa = some x → 0 < na → w0.heap.size ≤ x.block ∨ x.block < L) (hroom : m.used + (sealL xs).length ≤ m.room) :
    Calls Try.prog 23 #[.pointer (some ⟨gt, 0, none⟩), .slice pa na ca] w fun e w' => e = .returned (.int .i64 0) ∧ TSo w' L a g gt { m with f := upP m.f t.file { m.f t.file with told := (m.f t.file).told ++ sealL xs } } ⟨t.file, t.kept, ⟨t.r.gen, t.r.base, t.r.recs ++ [xs]⟩⟩ ∧ Below L w w' := by
  obtain ⟨own, d, pb, nb, cb, pr, cr, vs, Bv, hD0, hB0, hgt, hO0, hBv0⟩ := hT
  have hD := hD0.below hbw
  have hgl : g < w0.heap.size := hD0.da.dc.lt
  refine (TPut_ok w L own a g d m ha hD.da hm hD.lw gt t pb nb cb pr cr vs (hB0.below hbw) hfile Bv (Nat.le_trans hBv0 hbw.size) (hO0.below hbw) hcount pa na ca xs hpa hby hna (fun x e h0 => ?_) hroom).mono ?_
  · rcases hda x e h0 with h1 | h1
    · exact ⟨fun e2 => by rw [hD0.da.fr _ h1] at e2; unfold mark at e2; omega, by omega⟩
    · have h2 := hD0.lg
      exact ⟨fun e2 => by rw [hD0.low _ h1] at e2; unfold mark at e2; omega, by omega⟩
  · rintro e w' ⟨rfl, own2, d2, pr2, cr2, q, c, h1, h2, h3, h4, h5⟩
    refine ⟨rfl, ⟨own2, d2, pb, nb, cb, pr2, cr2, vs ++ [.slice q na c], Bv, hD.mv h1 h5.size h4, h2, hgt, h3, Nat.le_trans (Nat.le_trans hBv0 hbw.size) h5.size⟩, h5.lowL hD.lw fun k hk e => ?_⟩
    rcases e with e | e | e | ⟨x, e, hc, ex⟩
    · exact hD.no hgt hk (i := 0) (Or.inl e)
    · exact hD.no hgt hk (i := 0) (Or.inr (Or.inl e))
    · exact hD.no hgt hk (Or.inr (Or.inr e))
    · have h6 := (hO0.fv x e hc).1.1
      rw [← ex, hD.low k hk] at h6
      cases h6

theorem Good.few' {m : PD} (h : Good m) : m.few := h.few

/-- A disk alone. -/
def DSt (w : World) (L a g : Nat) (m : PD) : Prop := ∃ own d, DS w L a g own d m

theorem DSt.below {w w' : World} {L a g : Nat} {m : PD} (h : DSt w L a g m) (hb : Below w.heap.size w w') : DSt w' L a g m := by
  obtain ⟨own, d, h⟩ := h
  exact ⟨own, d, h.below hb⟩

theorem TSt.d {w : World} {L a g gt : Nat} {m : PD} {t : TP} (h : TSt w L a g gt m t) : DSt w L a g m := by
  obtain ⟨own, d, pb, nb, cb, pr, cr, vs, h1, _⟩ := h
  exact ⟨own, d, h1⟩

theorem DS.marked {w w' : World} {L a g : Nat} {own : Nat → Nat} {d : Dk} {m : PD} (h : DS w L a g own d m) (hb : Below w.heap.size w w') : DS w' L a g (farO own w.heap.size w'.heap.size) d m :=
  ⟨h.da.marked hb, Nat.le_trans h.lw hb.size, h.lg, fun k hk => by rw [farO_low (Nat.lt_of_lt_of_le hk h.lw)]; exact h.low k hk⟩

/-- Where Open is done: the reel that counts, or the next one. -/
theorem TOpen_S (w : World) (L a g : Nat) (m : PD) (ha : a ≤ 100) (hD : DSt w L a g m) (hm : Good m) (f : Nat) (r : PR) (b : Bool) (hsc : scT (fun i => (m.f i).told) 2 = (f, r, b)) (hBy : ∀ i, i < 2 → By (m.f i).told) (hf : f ≤ 1) (hr : r.ok) (hg : r.gen < 1099511627776) (hroom : b = false → svN m (1 - f) ⟨r.gen + 1, r.base, r.recs⟩ ≤ m.room) :
    Calls Try.prog 13 #[.pointer (some ⟨g, 0, none⟩)] w fun e w' => (∃ gt, e = .returned (.tuple #[.pointer (some ⟨gt, 0, none⟩), .int .i64 0]) ∧ ((b = true ∧ TSo w' L a g gt m ⟨f, r.recs.length, r⟩) ∨ (b = false ∧ TSo w' L a g gt (svM m (1 - f) ⟨r.gen + 1, r.base, r.recs⟩) ⟨1 - f, r.recs.length, ⟨r.gen + 1, r.base, r.recs⟩⟩))) ∧ Below L w w' := by
  obtain ⟨own, d, hS⟩ := hD
  have hgl : g < w.heap.size := hS.da.dc.lt
  have hX : ∀ w1 gt pb nb cb pr cr vs, OI w w1 g gt f r.recs.length r pb nb cb pr cr vs → TSo w1 L a g gt m ⟨f, r.recs.length, r⟩ := fun w1 gt pb nb cb pr cr vs hI =>
    ⟨_, d, pb, nb, cb, pr, cr, vs, w.heap.size, hS.marked hI.hb, hI.tb hgl, by have := hI.ge; have := hS.lw; omega, hI.to hgl, hI.hb.size⟩
  refine (TOpen_gen w g (fun i => (m.f i).told) (fun wr hb i hi => Read_O wr L own a g d m (hS.da.below hb) hm.r0 hm.up hm.few i (by omega)) hBy (fun i hi => Nat.le_trans (hm.few.told i (by omega)) (by decide)) (fun c gt w' => c = 0 ∧ TSo w' L a g gt (svM m (1 - f) ⟨r.gen + 1, r.base, r.recs⟩) ⟨1 - f, r.recs.length, ⟨r.gen + 1, r.base, r.recs⟩⟩ ∧ Below L w w') (fun c gt W W' h hb => ⟨h.1, h.2.1.below hb, h.2.2.trans (hb.mono (Nat.le_trans hS.lw h.2.2.size))⟩) ?_).mono ?_
  · rw [hsc]
    intro hb w1 gt pb nb cb pr cr vs hI
    refine (Save_S w1 L a g gt m ⟨f, r.recs.length, r⟩ ha (hX _ _ _ _ _ _ _ _ hI).t hm hf ⟨hr.gen.1, hg⟩ pb nb cb r.base hI.bas.rd hr.base.2 (by rw [← hI.bas.len]; exact hr.base.1) pr r.recs.length cr vs r.recs hI.rcs.rd hI.sls.sls rfl hr.few hr.recs (hroom hb)).mono ?_
    rintro e w' ⟨rfl, h1, h2⟩
    exact ⟨0, rfl, rfl, h1, (hI.hb.mono hS.lw).trans h2⟩
  · rw [hsc]
    rintro e w' (⟨hb, gt, pb, nb, cb, pr, cr, vs, rfl, hI⟩ | ⟨hb, c, gt, rfl, rfl, h1, h2⟩)
    · exact ⟨⟨gt, rfl, Or.inl ⟨hb, hX _ _ _ _ _ _ _ _ hI⟩⟩, hI.hb.mono hS.lw⟩
    · exact ⟨⟨gt, rfl, Or.inr ⟨hb, h1⟩⟩, h2⟩

end Go.Proofs.Ytpjhadaiodnnaaa.M
