/-
  Own text: Open of a tape: what its loop over the files finds.
-/
import Derived.Test.YtpjhadaiodnnaaaTNob2
namespace Go.Proofs.Ytpjhadaiodnnaaa.M
open Go.ChangeShapes Go.WideShapes Go.ChangeAt Go.RowKit
set_option linter.unusedSimpArgs false

/-- Which file counts, its reel, and whether it is whole: of the first k files, by what lies in them. -/
def scT (f : Nat → List Int) : Nat → Nat × PR × Bool
  | 0 => (1, .z0, false)
  | k + 1 => if (scT f k).2.1.gen < (ldR (f k)).1.gen then (k, (ldR (f k)).1, (ldR (f k)).2) else scT f k

/-- A tape that is being opened, in block gt, all its memory made since w. -/
structure OI (w wr : World) (g gt : Nat) (file kept : Nat) (r : PR) (pb : Option Addr) (nb cb : Nat) (pr : Option Addr) (cr : Nat) (vs : List Value) : Prop where
  hb : Below w.heap.size w wr
  blk : At 74 wr gt #[.pointer (some ⟨g, 0, none⟩), .int .i64 file, .int .i64 kept, .int .i64 r.gen, .slice pb nb cb, .slice pr r.recs.length cr]
  bas : Rd .u8 wr pb nb cb r.base
  lb : ∀ x, pb = some x → 0 < nb → w.heap.size < x.block
  rcs : RdV wr pr r.recs.length cr vs
  lv : ∀ x, pr = some x → 0 < r.recs.length → w.heap.size < x.block
  sls : Sls wr vs r.recs
  ls : ∀ i q m d, i < vs.length → vs.getD i undef = .slice q m d → ∀ x, q = some x → 0 < m → w.heap.size < x.block
  ge : gt = w.heap.size

theorem OI.below {w wr wr' : World} {g gt file kept : Nat} {r : PR} {pb : Option Addr} {nb cb : Nat} {pr : Option Addr} {cr : Nat} {vs : List Value} (h : OI w wr g gt file kept r pb nb cb pr cr vs) (hb : Below wr.heap.size wr wr') : OI w wr' g gt file kept r pb nb cb pr cr vs :=
  ⟨h.hb.trans (hb.mono h.hb.size), h.blk.below hb, h.bas.below hb, h.lb, h.rcs.below hb, h.lv, h.sls.below hb, h.ls, h.ge⟩

/-- The tape takes over a reel that was loaded. -/
theorem OI.load {w w4 : World} {g gt file kept : Nat} {r : PR} {pb : Option Addr} {nb cb : Nat} {pr : Option Addr} {cr : Nat} {vs : List Value} (h : OI w w4 g gt file kept r pb nb cb pr cr vs) (hgt : gt = w.heap.size) (k : Nat) (r2 : PR) (B2 : Nat) (hB2 : w.heap.size < B2) {pb2 : Option Addr} {nb2 cb2 : Nat} {pr2 : Option Addr} {cr2 : Nat} {vs2 : List Value}
    (hO : Ow .u8 5 w4 B2 pb2 nb2 cb2 r2.base) (hV : RdV w4 pr2 r2.recs.length cr2 vs2) (hv : ∀ a, pr2 = some a → 0 < r2.recs.length → B2 ≤ a.block) (hS : Slo 5 w4 B2 vs2 r2.recs) :
    OI w ((((w4.setCell ⟨gt, 3, none⟩ (.int .i64 r2.gen)).setCell ⟨gt, 4, none⟩ (.slice pb2 nb2 cb2)).setCell ⟨gt, 5, none⟩ (.slice pr2 r2.recs.length cr2)).setCell ⟨gt, 1, none⟩ (.int .i64 k)) g gt k kept r2 pb2 nb2 cb2 pr2 cr2 vs2 := by
  have he : Ex gt w4 ((((w4.setCell ⟨gt, 3, none⟩ (.int .i64 r2.gen)).setCell ⟨gt, 4, none⟩ (.slice pb2 nb2 cb2)).setCell ⟨gt, 5, none⟩ (.slice pr2 r2.recs.length cr2)).setCell ⟨gt, 1, none⟩ (.int .i64 k)) := (((Ex.refl gt w4).setCell 3 _).setCell 4 _ |>.setCell 5 _).setCell 1 _
  have hf : ∀ i q m d, i < vs2.length → vs2.getD i undef = .slice q m d → ∀ x, q = some x → 0 < m → w.heap.size < x.block := fun i q m d hi e x ex h0 => by
    obtain ⟨q', m', d', e', hr⟩ := hS.2 i hi
    rw [e] at e'
    cases e'
    have := (hr.ltC' x ex h0).1
    omega
  have hlb : ∀ x, pb2 = some x → 0 < nb2 → w.heap.size < x.block := fun x e h0 => by have := (hO.ltC' x e h0).1; omega
  have hlv : ∀ x, pr2 = some x → 0 < r2.recs.length → w.heap.size < x.block := fun x e h0 => by have := hv x e h0; omega
  have hc := Ch.of_ex he
  refine ⟨?_, ?_, hO.rd.exn he (fun x e h0 => by have := hlb x e h0; omega), hlb, hV.exn he (fun x e h0 => by have := hlv x e h0; omega), hlv, hS.sls.ch0 hc (fun i q m d hi e x ex h0 => by have := hf i q m d hi e x ex h0; show ¬ x.block = gt; omega), hf, h.ge⟩
  · have hb := h.hb
    refine (((hb.setCell ?_ _).setCell ?_ _).setCell ?_ _).setCell ?_ _ <;> (show w.heap.size ≤ gt; omega)
  · exact heap_setCell_same _ gt 1 _ _ _ (At.put345 h.blk _ _ _)

/-- How many last, when all was loaded. -/
theorem OI.keep {w w4 : World} {g gt file kept : Nat} {r : PR} {pb : Option Addr} {nb cb : Nat} {pr : Option Addr} {cr : Nat} {vs : List Value} (h : OI w w4 g gt file kept r pb nb cb pr cr vs) (hgt : gt = w.heap.size) (k : Nat) :
    OI w (w4.setCell ⟨gt, 2, none⟩ (.int .i64 k)) g gt file k r pb nb cb pr cr vs := by
  have he : Ex gt w4 (w4.setCell ⟨gt, 2, none⟩ (.int .i64 k)) := (Ex.refl gt w4).setCell 2 _
  have hc := Ch.of_ex he
  exact ⟨h.hb.setCell (show w.heap.size ≤ gt by omega) _, heap_setCell_same _ gt 2 _ _ _ h.blk, h.bas.exn he (fun x e h0 => by have := h.lb x e h0; omega), h.lb, h.rcs.exn he (fun x e h0 => by have := h.lv x e h0; omega), h.lv, h.sls.ch0 hc (fun i q m d hi e x ex h0 => by have := h.ls i q m d hi e x ex h0; show ¬ x.block = gt; omega), h.ls, h.ge⟩

theorem Rd.ltb {k : IntKind} {w : World} {p : Option Addr} {n c : Nat} {xs : List Int} (h : Rd k w p n c xs) : ∀ x, p = some x → 0 < n → x.block < w.heap.size := fun x e h0 => by
  obtain ⟨b, o, e2, hcl⟩ := h.cells h0
  rw [e] at e2
  cases e2
  exact World.block_lt_of_cell? _ _ (hcl 0 h0)

theorem RdV.ltb {w : World} {p : Option Addr} {n c : Nat} {vs : List Value} (h : RdV w p n c vs) : ∀ x, p = some x → 0 < n → x.block < w.heap.size := fun x e h0 => by
  obtain ⟨b, o, e2, hcl⟩ := h.cells h0
  rw [e] at e2
  cases e2
  exact World.block_lt_of_cell? _ _ (hcl 0 h0)

theorem Sls.ltb {w : World} {vs : List Value} {xss : List (List Int)} (h : Sls w vs xss) : ∀ i q m d, i < vs.length → vs.getD i undef = .slice q m d → ∀ x, q = some x → 0 < m → x.block < w.heap.size := fun i q m d hi e x ex h0 => by
  obtain ⟨q', m', d', e', hr⟩ := h.2 i hi
  rw [e] at e'
  cases e'
  exact hr.ltb x ex h0

/-- A tape that was opened, all its blocks marked as another's. -/
theorem OI.tb {w w1 : World} {own : Nat → Nat} {g gt file kept : Nat} {r : PR} {pb : Option Addr} {nb cb : Nat} {pr : Option Addr} {cr : Nat} {vs : List Value} (h : OI w w1 g gt file kept r pb nb cb pr cr vs) (hg : g < w.heap.size) : TB w1 (farO own w.heap.size w1.heap.size) g gt ⟨file, kept, r⟩ pb nb cb pr cr vs := by
  have hF : ∀ k, w.heap.size ≤ k → k < w1.heap.size → Fre (farO own w.heap.size w1.heap.size) g k := fun k h1 h2 => ⟨farO_in h1 h2, by omega⟩
  have hge := h.ge
  exact ⟨h.blk, hF gt (by omega) h.blk.lt, h.bas, fun x e h0 => hF _ (Nat.le_of_lt (h.lb x e h0)) (h.bas.ltb x e h0), h.rcs, fun x e h0 => hF _ (Nat.le_of_lt (h.lv x e h0)) (h.rcs.ltb x e h0), h.sls, fun i q m d hi e x ex h0 => hF _ (Nat.le_of_lt (h.ls i q m d hi e x ex h0)) (h.sls.ltb i q m d hi e x ex h0), fun x e h0 => by have := h.lb x e h0; omega, fun x e h0 => by have := h.lv x e h0; omega, fun i q m d hi e x ex h0 => by have := h.ls i q m d hi e x ex h0; omega⟩

end Go.Proofs.Ytpjhadaiodnnaaa.M
