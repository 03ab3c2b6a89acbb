/-
  Own text: a tape in memory, beside its disk; the contract of Save where it is done.
-/
import Derived.Test.YtpjhadaiodnnaaaTDisk
namespace Go.Proofs.Ytpjhadaiodnnaaa.M
open Go.ChangeShapes Go.WideShapes Go.ChangeAt Go.RowKit
set_option linter.unusedSimpArgs false

/-- A tape: which file counts, how many records last, the reel. -/
structure TP where
  file : Nat
  kept : Nat
  r : PR

/-- No block of the disk, and marked so. -/
def Fre (own : Nat → Nat) (g : Nat) (k : Nat) : Prop := own k = farM ∧ k ≠ g

/-- A tape in block gt, over the disk in block g. -/
structure TB (w : World) (own : Nat → Nat) (g gt : Nat) (t : TP) (pb : Option Addr) (nb cb : Nat) (pr : Option Addr) (cr : Nat) (vs : List Value) : Prop where
  blk : At 74 w gt #[.pointer (some ⟨g, 0, none⟩), .int .i64 t.file, .int .i64 t.kept, .int .i64 t.r.gen, .slice pb nb cb, .slice pr t.r.recs.length cr]
  fg : Fre own g gt
  bas : Rd .u8 w pb nb cb t.r.base
  fb : ∀ x, pb = some x → 0 < nb → Fre own g x.block
  rcs : RdV w pr t.r.recs.length cr vs
  fv : ∀ x, pr = some x → 0 < t.r.recs.length → Fre own g x.block
  sls : Sls w vs t.r.recs
  fs : ∀ i q m d, i < vs.length → vs.getD i undef = .slice q m d → ∀ x, q = some x → 0 < m → Fre own g x.block
  nb : ∀ x, pb = some x → 0 < nb → x.block ≠ gt
  nv : ∀ x, pr = some x → 0 < t.r.recs.length → x.block ≠ gt
  ns : ∀ i q m d, i < vs.length → vs.getD i undef = .slice q m d → ∀ x, q = some x → 0 < m → x.block ≠ gt

theorem RdV.ch0 {S : Nat → Prop} {w w' : World} {p : Option Addr} {n c : Nat} {vs : List Value} (h : RdV w p n c vs) (hc : Ch S w w') (hs : ∀ a, p = some a → 0 < n → ¬ S a.block) : RdV w' p n c vs :=
  ⟨h.len, h.cap, h.nil, fun hn => by
    obtain ⟨b, o, e, hcl⟩ := h.cells hn
    refine ⟨b, o, e, fun i hi => ?_⟩
    have h1 := hcl i hi
    rw [hc.cell (p := ⟨b, o + i, none⟩) (World.block_lt_of_cell? _ _ h1) (show ¬ S b from hs _ e hn)]
    exact h1⟩

theorem Sls.ch0 {S : Nat → Prop} {w w' : World} {vs : List Value} {xss : List (List Int)} (h : Sls w vs xss) (hc : Ch S w w') (hs : ∀ i q m d, i < vs.length → vs.getD i undef = .slice q m d → ∀ x, q = some x → 0 < m → ¬ S x.block) : Sls w' vs xss :=
  ⟨h.1, fun i hi => by
    obtain ⟨q, m, d, e, hr⟩ := h.2 i hi
    exact ⟨q, m, d, e, hr.ch0 hc (hs i q m d hi e)⟩⟩

theorem Fre.not {own : Nat → Nat} {g k a i : Nat} (h : Fre own g k) (ha : a ≤ 100) (hi : i < 8) : ¬ (k = g ∨ own k = mark a i) := fun e => e.elim h.2 (fun e => far_mark ha hi (by rw [← e, h.1]))

theorem At.ch {t : TypeId} {S : Nat → Prop} {w w' : World} {g : Nat} {cs : Array Value} (h : At t w g cs) (hc : Ch S w w') (hs : ¬ S g) : At t w' g cs := (hc.block g h.lt hs).trans h

/-- A tape beside what its disk does. -/
theorem TB.ch {w w' : World} {own own2 : Nat → Nat} {a i g gt : Nat} {t : TP} {pb : Option Addr} {nb cb : Nat} {pr : Option Addr} {cr : Nat} {vs : List Value} (ha : a ≤ 100) (hi : i < 8) (h : TB w own g gt t pb nb cb pr cr vs) (hc : Ch (fun k => k = g ∨ own k = mark a i) w w') (ho : ∀ k, k < w.heap.size → own2 k = own k) : TB w' own2 g gt t pb nb cb pr cr vs := by
  have hlb : ∀ x, pb = some x → 0 < nb → x.block < w.heap.size := fun x e h0 => by
    obtain ⟨b, o, e2, hcl⟩ := h.bas.cells h0
    rw [e] at e2
    cases e2
    exact World.block_lt_of_cell? _ _ (hcl 0 h0)
  have hlv : ∀ x, pr = some x → 0 < t.r.recs.length → x.block < w.heap.size := fun x e h0 => by
    obtain ⟨b, o, e2, hcl⟩ := h.rcs.cells h0
    rw [e] at e2
    cases e2
    exact World.block_lt_of_cell? _ _ (hcl 0 h0)
  have hls : ∀ i q m d, i < vs.length → vs.getD i undef = .slice q m d → ∀ x, q = some x → 0 < m → x.block < w.heap.size := fun j q m d hj e x ex h0 => by
    obtain ⟨q', m', d', e', hr⟩ := h.sls.2 j hj
    rw [e] at e'
    cases e'
    obtain ⟨b, o, e2, hcl⟩ := hr.cells h0
    rw [ex] at e2
    cases e2
    exact World.block_lt_of_cell? _ _ (hcl 0 h0)
  exact ⟨h.blk.ch hc (h.fg.not ha hi), ⟨(ho gt h.blk.lt).trans h.fg.1, h.fg.2⟩, h.bas.ch0 hc (fun x e h0 => (h.fb x e h0).not ha hi), (fun x e h0 => ⟨(ho _ (hlb x e h0)).trans (h.fb x e h0).1, (h.fb x e h0).2⟩), h.rcs.ch0 hc (fun x e h0 => (h.fv x e h0).not ha hi), (fun x e h0 => ⟨(ho _ (hlv x e h0)).trans (h.fv x e h0).1, (h.fv x e h0).2⟩), h.sls.ch0 hc (fun j q m d hj e x ex h0 => (h.fs j q m d hj e x ex h0).not ha hi), fun j q m d hj e x ex h0 => ⟨(ho _ (hls j q m d hj e x ex h0)).trans (h.fs j q m d hj e x ex h0).1, (h.fs j q m d hj e x ex h0).2⟩, h.nb, h.nv, h.ns⟩

theorem TB.below {w w' : World} {own : Nat → Nat} {g gt : Nat} {t : TP} {pb : Option Addr} {nb cb : Nat} {pr : Option Addr} {cr : Nat} {vs : List Value} (h : TB w own g gt t pb nb cb pr cr vs) (hb : Below w.heap.size w w') : TB w' own g gt t pb nb cb pr cr vs :=
  ⟨h.blk.below hb, h.fg, h.bas.below hb, h.fb, h.rcs.below hb, h.fv, h.sls.below hb, h.fs, h.nb, h.nv, h.ns⟩

/-- A tape whose bytes and records are its own, from block Bv on. -/
structure TO (w : World) (own : Nat → Nat) (Bv g gt : Nat) (t : TP) (pb : Option Addr) (nb cb : Nat) (pr : Option Addr) (cr : Nat) (vs : List Value) : Prop where
  bas : Ow .u8 5 w Bv pb nb cb t.r.base
  fb : ∀ x, pb = some x → 0 < cb → Fre own g x.block ∧ x.block ≠ gt
  rcs : OwV 22 w Bv pr t.r.recs.length cr vs
  fv : ∀ x, pr = some x → 0 < cr → Fre own g x.block ∧ x.block ≠ gt
  sls : Slo 5 w Bv vs t.r.recs
  fs : ∀ i q m d, i < vs.length → vs.getD i undef = .slice q m d → ∀ x, q = some x → 0 < d → Fre own g x.block ∧ x.block ≠ gt

theorem TO.tb {w : World} {own : Nat → Nat} {Bv g gt : Nat} {t : TP} {pb : Option Addr} {nb cb : Nat} {pr : Option Addr} {cr : Nat} {vs : List Value} (h : TO w own Bv g gt t pb nb cb pr cr vs) (hb : At 74 w gt #[.pointer (some ⟨g, 0, none⟩), .int .i64 t.file, .int .i64 t.kept, .int .i64 t.r.gen, .slice pb nb cb, .slice pr t.r.recs.length cr]) (hg : Fre own g gt) : TB w own g gt t pb nb cb pr cr vs :=
  have hf : ∀ i q m d, i < vs.length → vs.getD i undef = .slice q m d → ∀ x, q = some x → 0 < m → Fre own g x.block ∧ x.block ≠ gt := fun i q m d hi e x ex h0 => by
    obtain ⟨q', m', d', e', hr⟩ := h.sls.2 i hi
    rw [e] at e'
    cases e'
    exact h.fs i q m d hi e x ex (Nat.lt_of_lt_of_le h0 hr.cap)
  ⟨hb, hg, h.bas.rd, fun x e h0 => (h.fb x e (Nat.lt_of_lt_of_le h0 h.bas.cap)).1, h.rcs.rd, fun x e h0 => (h.fv x e (Nat.lt_of_lt_of_le h0 h.rcs.cap)).1, h.sls.sls, fun i q m d hi e x ex h0 => (hf i q m d hi e x ex h0).1, fun x e h0 => (h.fb x e (Nat.lt_of_lt_of_le h0 h.bas.cap)).2, fun x e h0 => (h.fv x e (Nat.lt_of_lt_of_le h0 h.rcs.cap)).2, fun i q m d hi e x ex h0 => (hf i q m d hi e x ex h0).2⟩

/-- A tape whose own words are changed. -/
theorem TB.put {w w' : World} {own : Nat → Nat} {g gt : Nat} {t : TP} {pb : Option Addr} {nb cb : Nat} {pr : Option Addr} {cr : Nat} {vs : List Value} (h : TB w own g gt t pb nb cb pr cr vs) (he : Ex gt w w') (file kept : Nat) (ha : At 74 w' gt #[.pointer (some ⟨g, 0, none⟩), .int .i64 file, .int .i64 kept, .int .i64 t.r.gen, .slice pb nb cb, .slice pr t.r.recs.length cr]) : TB w' own g gt ⟨file, kept, t.r⟩ pb nb cb pr cr vs :=
  have hc : Ch (fun k => k = gt) w w' := ⟨he.os, he.tape, he.output, he.size, fun k hk hn => he.block k hk hn⟩
  ⟨ha, h.fg, h.bas.ch0 hc h.nb, h.fb, h.rcs.ch0 hc h.nv, h.fv, h.sls.ch0 hc h.ns, h.fs, h.nb, h.nv, h.ns⟩

set_option maxRecDepth 20000 in
theorem tmade_yes (w : World) (gt g : Nat) (h0 : w.cell? ⟨gt, 0, none⟩ = some (.pointer (some ⟨g, 0, none⟩))) : Calls Try.prog 53 #[.pointer (some ⟨gt, 0, none⟩)] w fun e w' => e = .returned (.bool true) ∧ w' = w := by
  go_enter Try.func53, Try.ntmps53
  go_wp2_with fail
  go_ret
  exact ⟨rfl, rfl⟩

set_option maxRecDepth 20000 in
theorem other_any (w : World) (gt file : Nat) (hf : file ≤ 1) (h1 : w.cell? ⟨gt, 1, none⟩ = some (.int .i64 file)) : Calls Try.prog 58 #[.pointer (some ⟨gt, 0, none⟩)] w fun e w' => e = .returned (.int .i64 ((1 - file : Nat) : Int)) ∧ w' = w := by
  have hw : IntKind.i64.wrap (1 - (file : Int)) = ((1 - file : Nat) : Int) := by rw [IntKind.wrap_i64]; omega
  go_enter Try.func58, Try.ntmps58
  go_wp2_with fail
  go_ret
  exact ⟨by simp [hw], rfl⟩

theorem wp_store_one {P : Program} {op : Oper} {a : Act} {w : World} {K : Act → World → Prop} {Q : Exit → Act → World → Prop} (ty : TypeId) (x y : Operand) (ho : op.op = .store ty x y) (b o : Nat) (v : Value) (hv : v.cells = #[v]) (hv1 : v.oneCell' = true) (u : Value)
    (hx : a.eval x = .pointer (some ⟨b, o, none⟩)) (hy : a.eval y = v) (hsz : (P.info? ty).map (·.size) = some 1) (hc : w.cell? ⟨b, o, none⟩ = some u) (hf : w.frozen? ⟨b, o, none⟩ = false)
    (h : K (a.put op.dst undef) (w.setCell ⟨b, o, none⟩ v)) : op.wp P a w K Q := by
  have hrun : (storeVar ty ⟨b, o, none⟩ v).run P w = .ok () (w.setCell ⟨b, o, none⟩ v) := by
    have := run_storeCells_cells (P := P) b o [v] 0 w (fun j hj => by
        match j, hj with
        | 0, _ => rw [Nat.add_zero, hc]; rfl) (fun j hj => by
        match j, hj with
        | 0, _ => exact hf) (fun u hu => by rw [List.mem_singleton.1 hu]; exact hv1)
    cases hq : P.info? ty with
    | none => simp [hq] at hsz
    | some i =>
      have hs : i.size = 1 := by simpa [hq] using hsz
      simp only [Nat.add_zero] at this
      simp [storeVar, sizeOf, typeInfo, hq, hv, hs, this, World.setCells]
  unfold Oper.wp execOp
  simp only [ho, hx, hy, Instr.storeAt, Instr.sureAddr, Sem.run_bind, Sem.run_pure, Result.andThen_ok, hrun]
  exact h

theorem sizeI : (Try.prog.info? 3).map (·.size) = some 1 := by kernel_rfl

theorem At.put345 {t : TypeId} {w : World} {g : Nat} {a b c x y z : Value} (h : At t w g #[a, b, c, x, y, z]) (x' y' z' : Value) : At t (((w.setCell ⟨g, 3, none⟩ x').setCell ⟨g, 4, none⟩ y').setCell ⟨g, 5, none⟩ z') g #[a, b, c, x', y', z'] := by
  have h1 := heap_setCell_same w g 3 _ _ x' h
  have h2 := heap_setCell_same _ g 4 _ _ y' h1
  exact heap_setCell_same _ g 5 _ _ z' h2

/-- While a tape is given its next reel. -/
structure Sv (w6 : World) (gt gb : Nat) (cs : Array Value) (gen : Int) (qb : Option Addr) (mb db : Nat) (qr : Option Addr) (nr dr : Nat) (W : World) : Prop where
  at0 : At 74 W gt cs
  bx : At 72 W gb #[.int .i64 gen, .slice qb mb db, .slice qr nr dr]
  ex : Ex gt w6 W

theorem Sv.stays (w6 : World) (gt gb : Nat) (cs : Array Value) (gen : Int) (qb : Option Addr) (mb db : Nat) (qr : Option Addr) (nr dr : Nat) : Stays (Sv w6 gt gb cs gen qb mb db qr nr dr) := fun _ _ h hb => ⟨h.at0.below hb, h.bx.below hb, h.ex.trans (Ex.of_below hb)⟩

theorem Sv.rg {w6 : World} {gt gb : Nat} {cs : Array Value} {gen : Int} {qb : Option Addr} {mb db : Nat} {qr : Option Addr} {nr dr : Nat} {W : World} (h : Sv w6 gt gb cs gen qb mb db qr nr dr W) : W.rangeAt gb 0 [.int .i64 gen, .slice qb mb db, .slice qr nr dr] := fun j u hu => by
  rw [Nat.zero_add]
  match j, hu with
  | 0, hu => cases hu; exact h.bx.cell 0
  | 1, hu => cases hu; exact h.bx.cell 1
  | 2, hu => cases hu; exact h.bx.cell 2

theorem Sv.put {w6 : World} {gt gb : Nat} {cs cs' : Array Value} {gen : Int} {qb : Option Addr} {mb db : Nat} {qr : Option Addr} {nr dr : Nat} {V V' : World} (h : Sv w6 gt gb cs gen qb mb db qr nr dr V) (hE : Ex gt V V') (ha : At 74 V' gt cs') (hne : gb ≠ gt) : Sv w6 gt gb cs' gen qb mb db qr nr dr V' :=
  ⟨ha, h.bx.ex hE hne, h.ex.trans hE⟩

end Go.Proofs.Ytpjhadaiodnnaaa.M
