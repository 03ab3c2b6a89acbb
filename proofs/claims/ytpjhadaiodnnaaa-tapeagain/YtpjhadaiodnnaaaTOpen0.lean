/-
  Own text: the contract of Save where it is done.
  Own text: the contracts of a tape's Sync where it is done, of Len, of Kept and of Base.
  Own text: append of one value to a row of its owner: where the new row lies.
  Own text: the contract of a tape's Put where it is done.
  Own text: the contract of a tape's At where the record is there.
  Own text: the calls of a tape that no call made.
  Own text: Open of a tape on a disk that no call made.
  Own text: Open of a tape: what its loop over the files finds.
-/
import Derived.Test.YtpjhadaiodnnaaaTSave
namespace Go.Proofs.Ytpjhadaiodnnaaa.M
open Go.ChangeShapes Go.WideShapes Go.ChangeAt Go.RowKit
set_option linter.unusedSimpArgs false

/-- A disk without a fuse that may be written to. -/
structure Good (m : PD) : Prop where
  r0 : 0 < m.room
  r1 : m.room ≤ 4194304
  up : m.down = false
  few : m.few
  left : m.left = 0

theorem Ow.fre {w w' : World} {own : Nat → Nat} {B g n c hi : Nat} {p : Option Addr} {xs : List Int} (h : Ow .u8 5 w' B p n c xs) (hs : w'.heap.size ≤ hi) (hg : g < w.heap.size) (hB : w.heap.size ≤ B) : ∀ x, p = some x → 0 < c → Fre (farO own w.heap.size hi) g x.block ∧ w.heap.size ≤ x.block ∧ x.block < w'.heap.size := fun x e h0 => by
  rcases h.own with ⟨h1, _⟩ | h1
  · omega
  · have h2 := World.ownsRow.lt h1 x.block (by rw [e]; rfl)
    exact ⟨⟨farO_in (by omega) (by omega), by omega⟩, by omega, h2.2⟩

theorem ownsRow_chB {S : Nat → Prop} {w w' : World} {B : Nat} {e : TypeId} {sz : Nat} {v : Value} {n : Nat} {xs : List Value} (h : w.ownsRow B e sz v n xs) (hc : Ch S w w') (hs : ∀ k, B ≤ k → k < w.heap.size → ¬ S k) : w'.ownsRow B e sz v n xs := by
  refine ⟨h.1, ?_⟩
  rcases h.2 with h2 | ⟨g', cap, cur, hv', hg, hh, r⟩
  · exact Or.inl h2
  · refine Or.inr ⟨g', cap, cur, hv', hg, ?_, r⟩
    have hl := (Array.getElem?_eq_some_iff.1 hh).1
    rw [hc.block g' hl (hs g' hg hl)]
    exact hh

theorem Ow.chB {k : IntKind} {u : TypeId} {S : Nat → Prop} {w w' : World} {B n c : Nat} {p : Option Addr} {xs : List Int} (h : Ow k u w B p n c xs) (hc : Ch S w w') (hs : ∀ k, B ≤ k → k < w.heap.size → ¬ S k) : Ow k u w' B p n c xs := ⟨h.len, h.own.imp id fun h => ownsRow_chB h hc hs⟩

theorem OwV.chB {u : TypeId} {S : Nat → Prop} {w w' : World} {B n c : Nat} {p : Option Addr} {xs : List Value} (h : OwV u w B p n c xs) (hc : Ch S w w') (hs : ∀ k, B ≤ k → k < w.heap.size → ¬ S k) : OwV u w' B p n c xs := ⟨h.len, h.own.imp id fun h => ownsRow_chB h hc hs⟩

theorem Slo.chB {u : TypeId} {S : Nat → Prop} {w w' : World} {B : Nat} {vs : List Value} {xss : List (List Int)} (h : Slo u w B vs xss) (hc : Ch S w w') (hs : ∀ k, B ≤ k → k < w.heap.size → ¬ S k) : Slo u w' B vs xss :=
  ⟨h.1, fun i hi => by obtain ⟨q, m, d, e, r⟩ := h.2 i hi; exact ⟨q, m, d, e, r.chB hc hs⟩⟩

theorem Ch.of_ex {g : Nat} {w w' : World} (he : Ex g w w') : Ch (fun k => k = g) w w' := ⟨he.os, he.tape, he.output, he.size, fun k hk hn => he.block k hk hn⟩

theorem OwV.fre {u : TypeId} {w w' : World} {own : Nat → Nat} {B g n c hi : Nat} {p : Option Addr} {xs : List Value} (h : OwV u w' B p n c xs) (hs : w'.heap.size ≤ hi) (hg : g < w.heap.size) (hB : w.heap.size ≤ B) : ∀ x, p = some x → 0 < c → Fre (farO own w.heap.size hi) g x.block ∧ w.heap.size ≤ x.block ∧ x.block < w'.heap.size := fun x e h0 => by
  rcases h.own with ⟨h1, _⟩ | h1
  · omega
  · have h2 := World.ownsRow.lt h1 x.block (by rw [e]; rfl)
    exact ⟨⟨farO_in (by omega) (by omega), by omega⟩, by omega, h2.2⟩

theorem Fre.to {own own2 : Nat → Nat} {g k n : Nat} (h : Fre own g k) (hk : k < n) (ho : ∀ k, k < n → own2 k = own k) : Fre own2 g k := ⟨(ho k hk).trans h.1, h.2⟩

set_option maxRecDepth 20000 in
set_option maxHeartbeats 8000000 in
theorem Save_ok (w : World) (B : Nat) (own : Nat → Nat) (a g : Nat) (d : Dk) (m : PD) (ha : a ≤ 100) (h : DA w B own a g d m) (hm : Good m) (hB : B ≤ w.heap.size) (gt : Nat) (t : TP) (pb : Option Addr) (nb cb : Nat) (pr : Option Addr) (cr : Nat) (vs : List Value) (hT : TB w own g gt t pb nb cb pr cr vs) (hfile : t.file ≤ 1) (hgen : 0 ≤ t.r.gen ∧ t.r.gen < 1099511627776)
    (pa : Option Addr) (na ca : Nat) (base : List Int) (hpa : Rd .u8 w pa na ca base) (hby : By base) (hna : na ≤ 8176) (pl : Option Addr) (nl cl : Nat) (us : List Value) (recs : List (List Int)) (hpl : RdV w pl nl cl us) (hus : Sls w us recs) (hnl : nl = recs.length) (hfew : nl ≤ 1000000) (hrec : ∀ i, i < recs.length → By (recs.getD i []) ∧ (recs.getD i []).length ≤ 8192)
    (hroom : ({ m with f := upP m.f (1 - t.file) ⟨[], (m.f (1 - t.file)).lasts, true⟩ } : PD).used + (sealR ⟨t.r.gen + 1, base, recs⟩).length ≤ m.room) :
    Calls Try.prog 21 #[.pointer (some ⟨gt, 0, none⟩), .slice pa na ca, .slice pl nl cl] w fun e w' => e = .returned (.int .i64 0) ∧ ∃ own2 d2 qb mb db qr dr us2, DA w' B own2 a g d2 { m with f := upP m.f (1 - t.file) ⟨sealR ⟨t.r.gen + 1, base, recs⟩, sealR ⟨t.r.gen + 1, base, recs⟩, false⟩ } ∧ TB w' own2 g gt ⟨1 - t.file, nl, ⟨t.r.gen + 1, base, recs⟩⟩ qb mb db qr dr us2 ∧ TO w' own2 w.heap.size g gt ⟨1 - t.file, nl, ⟨t.r.gen + 1, base, recs⟩⟩ qb mb db qr dr us2 ∧ (∀ k, k < w.heap.size → own2 k = own k) ∧ Ch (fun k => k = g ∨ k = gt ∨ own k = mark a (1 - t.file)) w w' := by
  have HN : Hid (nl = recs.length) := hnl
  have hgl : g < w.heap.size := h.dc.lt
  have hgtl : gt < w.heap.size := hT.blk.lt
  have hM := tmade_yes w gt g (hT.blk.cell 0)
  have c3 := hT.blk.cell 3
  have hF := fits_any pa na ca pl nl cl us recs w hpl hus hnl hfew
  have hfit : fitsR na recs = true := by unfold fitsR; rw [decide_eq_true hna, Bool.true_and]; exact shortV_yes fun i hi => (hrec i hi).2
  rw [hfit] at hF
  have hge : decide ((1099511627776 : Int) ≤ t.r.gen) = false := decide_eq_false (by omega)
  have hi8 : 1 - t.file < 8 := by omega
  have hok : PR.ok ⟨t.r.gen + 1, base, recs⟩ := ⟨by show 0 ≤ t.r.gen + 1 ∧ t.r.gen + 1 ≤ 1099511627776; omega, ⟨by show base.length ≤ 8176; rw [hpa.len]; exact hna, hby⟩, by show recs.length ≤ 1000000; rw [← HN.out]; exact hfew, hrec⟩
  clear hfit hnl
  go_enter Try.func21, Try.ntmps21
  go_wp2_with fail
  refine hM.mono ?_
  rintro e w0 ⟨rfl, hw0⟩
  subst hw0
  clear hM
  go_wp2_with fail
  refine hF.mono ?_
  rintro e w1 ⟨rfl, hb1⟩
  clear hF
  have hFo := follow_any w1 gt t.r.gen (cell_below hb1 c3) hgen pa na ca base (hpa.below hb1) (by omega) pl nl cl us recs (hpl.below hb1) (hus.below hb1) HN.out hfew (fun i hi => (hrec i hi).2)
  clear c3
  go_wp2_with fail
  refine hFo.mono ?_
  rintro e w2 ⟨⟨v, rfl, qb, mb, db, qr, dr, us2, rfl, hO2, hV2, hS2⟩, hb2⟩
  dsimp only at hO2 hV2 hS2
  obtain ⟨nr, HNR⟩ : ∃ z, z = recs.length := ⟨_, rfl⟩
  rw [← HNR] at hV2
  dsimp only
  rw [← HNR]
  have HNR2 : Hid (nr = recs.length) := HNR
  clear HNR hFo
  have hb12 := hb1.trans (hb2.mono hb1.size)
  have hba3 := below_alloc w2 (.cells #[.int .i64 (t.r.gen + 1), .slice qb mb db, .slice qr nr dr] 72)
  have hG3 := At.new 72 w2 #[.int .i64 (t.r.gen + 1), .slice qb mb db, .slice qr nr dr]
  have hb3 := hb12.trans (hba3.mono hb12.size)
  have hO3 := hO2.below hba3
  have hV3 := hV2.below hba3
  have hS3 := hS2.below hba3
  have hgb : w0.heap.size ≤ w2.heap.size := hb12.size
  have hT3 := hT.below hb3
  have hOt := other_any _ gt t.file hfile (hT3.blk.cell 1)
  have hSe := sealed_any _ w2.heap.size ⟨t.r.gen + 1, base, recs⟩ hok qb mb db qr dr us2 (by show At 72 _ _ #[.int .i64 (t.r.gen + 1), .slice qb mb db, .slice qr recs.length dr]; rw [← HNR2.out]; exact hG3) hO3.rd (by show RdV _ _ recs.length _ _; rw [← HNR2.out]; exact hV3.rd) hS3.sls
  go_wp2_with fail
  refine hOt.mono ?_
  rintro e w3 ⟨rfl, hw3⟩
  subst hw3
  go_wp2_with fail
  refine hSe.mono ?_
  rintro e w4 ⟨⟨ps, ns, cs, rfl, hOs⟩, hb4⟩
  clear hOt hSe
  have hb04 := hb3.trans (hb4.mono hb3.size)
  have hD4 := h.marked hb04
  have hG4 := hG3.below hb4
  have hO4 := hO3.below hb4
  have hV4 := hV3.below hb4
  have hS4 := hS3.below hb4
  have hT4 := hT.blk.below hb04
  have hogt : farO own w0.heap.size w4.heap.size gt = farM := (farO_low hgtl).trans hT.fg.1
  have hns : ns = (sealR ⟨t.r.gen + 1, base, recs⟩).length := hOs.len.symm
  have hWr := write_ok w4 B _ a g d m hD4 hm.r0 hm.r1 hm.up hm.few hm.left (Nat.le_trans hB hb04.size) (1 - t.file) hi8 gt (hT4.cell 0) (by rw [hogt]; exact far_mark ha hi8) hT.fg.2 ps ns cs _ hOs.rd (fun x e h0 => by
    have h1 := hOs.fre (w := w0) (own := own) (g := g) (hi := w4.heap.size) (Nat.le_refl _) hgl hb3.size x e (Nat.lt_of_lt_of_le h0 hOs.cap)
    exact ⟨by rw [h1.1.1]; exact far_mark ha hi8, h1.1.2⟩) (by have := hm.r1; omega) (by rw [hns]; exact hroom)
  have hgb4 : w2.heap.size < w4.heap.size := hG4.lt
  obtain ⟨gb, hgbe⟩ : ∃ z, z = w2.heap.size := ⟨_, rfl⟩
  rw [← hgbe] at hG4 hgb hgb4 ⊢
  have HGB : Hid (gb = w2.heap.size) := hgbe
  have HGB4 : Hid (gb < w4.heap.size) := hgb4
  have HGBL : Hid (w0.heap.size ≤ gb) := hgb
  clear hgbe hns hgb4 hgb
  go_wp2_with fail
  refine hWr.mono ?_
  rintro e w6 ⟨rfl, own5, d5, hD5, ho5, hc5⟩
  clear hWr
  have hfgb : Fre (farO own w0.heap.size w4.heap.size) g gb := ⟨farO_in HGBL.out HGB4.out, by have := HGBL.out; omega⟩
  have hG6 := hG4.ch hc5 (hfgb.not ha hi8)
  have hT6 := hT4.ch hc5 (Fre.not (g := g) ⟨hogt, hT.fg.2⟩ ha hi8)
  have hgbt : gb ≠ gt := by have := HGBL.out; omega
  have hS6 : Sv w6 gt gb #[.pointer (some ⟨g, 0, none⟩), .int .i64 t.file, .int .i64 t.kept, .int .i64 t.r.gen, .slice pb nb cb, .slice pr t.r.recs.length cr] (t.r.gen + 1) qb mb db qr nr dr w6.drew := Sv.stays _ _ _ _ _ _ _ _ _ _ _ w6 _ ⟨hT6, hG6, Ex.refl _ _⟩ ((Below.refl _ _).drew)
  have HNL : Hid (nl = nr) := by show _ = _; rw [HNR2.out]; exact HN.out
  rw [HNL.out]
  clear hG4 hT4 hD4
  go_wp2_with fail
  refine wp_region_det [0, 1, 2, 3, 4, 6, 7] (fun W => W.rangeAt gb 0 [.int .i64 (t.r.gen + 1), .slice qb mb db, .slice qr nr dr]) (Sv w6 gt gb #[.pointer (some ⟨g, 0, none⟩), .int .i64 t.file, .int .i64 t.kept, .int .i64 t.r.gen, .slice pb nb cb, .slice pr t.r.recs.length cr] (t.r.gen + 1) qb mb db qr nr dr) (by kernel_rfl) hS6 ?_
  refine wpDet_take ?vA0 (Sv.stays _ _ _ _ _ _ _ _ _ _ _) (fun W h => h.rg) (i := 0) rfl (by kernel_rfl) (by kernel_rfl) (by kernel_rfl) (by kernel_rfl) (fun _ _ _ h => h) (Gives.value (by rfl) ?yA0) ?rA0
  case yA0 => (intro w' hSw; go_simp; try with_reducible rfl)
  (try simp only [Act.put, List.getElem_toArray, List.getElem_cons_zero, List.getElem_cons_succ, List.setIfInBounds_toArray, List.set_cons_zero, List.set_cons_succ])
  refine wpDet_take ?vA1 (Sv.stays _ _ _ _ _ _ _ _ _ _ _) (fun W h => h.rg) (i := 1) rfl (by kernel_rfl) (by kernel_rfl) (by kernel_rfl) (by kernel_rfl) (fun _ _ _ h => h) (Gives.value (by rfl) ?yA1) ?rA1
  case yA1 => (intro w' hSw; go_simp; try with_reducible rfl)
  (try simp only [Act.put, List.getElem_toArray, List.getElem_cons_zero, List.getElem_cons_succ, List.setIfInBounds_toArray, List.set_cons_zero, List.set_cons_succ])
  refine wpDet_take ?vA2 (Sv.stays _ _ _ _ _ _ _ _ _ _ _) (fun W h => h.rg) (i := 2) rfl (by kernel_rfl) (by kernel_rfl) (by kernel_rfl) (by kernel_rfl) (fun _ _ _ h => h) (Gives.value (by rfl) ?yA2) ?rA2
  case yA2 => (intro w' hSw; go_simp; try with_reducible rfl)
  (try simp only [Act.put, List.getElem_toArray, List.getElem_cons_zero, List.getElem_cons_succ, List.setIfInBounds_toArray, List.set_cons_zero, List.set_cons_succ])
  refine wpDet_take _ (Sv.stays _ _ _ _ _ _ _ _ _ _ _) (fun W h => h.rg) (i := 3) rfl (by kernel_rfl) (by kernel_rfl) (by kernel_rfl) (by kernel_rfl) (fun _ _ _ h => h) (Gives.of_yields (yieldsIf_load_mid (by rfl) _ _ rfl _ _ rfl _ _ (fun W h => h) Try.underlying72 rfl sizeR)) ?_
  (try simp only [Act.put, List.getElem_toArray, List.getElem_cons_zero, List.getElem_cons_succ, List.setIfInBounds_toArray, List.set_cons_zero, List.set_cons_succ])
  refine wpDet_take ?vA4 (Sv.stays _ _ _ _ _ _ _ _ _ _ _) (fun W h => h.rg) (i := 4) rfl (by kernel_rfl) (by kernel_rfl) (by kernel_rfl) (by kernel_rfl) (fun _ _ _ h => h) (Gives.value (by rfl) ?yA4) ?rA4
  case yA4 => (intro w' hSw; go_simp; try with_reducible rfl)
  (try simp only [Act.put, List.getElem_toArray, List.getElem_cons_zero, List.getElem_cons_succ, List.setIfInBounds_toArray, List.set_cons_zero, List.set_cons_succ])
  refine wpDet_take ?vA6 (Sv.stays _ _ _ _ _ _ _ _ _ _ _) (fun W h => h.rg) (i := 6) rfl (by kernel_rfl) (by kernel_rfl) (by kernel_rfl) (by kernel_rfl) (fun _ _ _ h => h) (Gives.value (by rfl) ?yA6) ?rA6
  case yA6 => (intro w' hSw; go_simp; try with_reducible rfl)
  (try simp only [Act.put, List.getElem_toArray, List.getElem_cons_zero, List.getElem_cons_succ, List.setIfInBounds_toArray, List.set_cons_zero, List.set_cons_succ])
  refine wpDet_take ?vA7 (Sv.stays _ _ _ _ _ _ _ _ _ _ _) (fun W h => h.rg) (i := 7) rfl (by kernel_rfl) (by kernel_rfl) (by kernel_rfl) (by kernel_rfl) (fun _ _ _ h => h) (Gives.value (by rfl) ?yA7) ?rA7
  case yA7 => (intro w' hSw; go_simp; try with_reducible rfl)
  (try simp only [Act.put, List.getElem_toArray, List.getElem_cons_zero, List.getElem_cons_succ, List.setIfInBounds_toArray, List.set_cons_zero, List.set_cons_succ])
  refine wpDet_ready (rs := [5]) (by kernel_rfl) (by simp) (AllDet.cons rfl (fun V hV K hK => ?_) AllDet.nil)
  rw [if_pos (by rfl)]
  have hC := other_any V gt t.file hfile (hV.at0.cell 1)
  refine wp_enterX 58 #[.pointer (some ⟨gt, 0, none⟩)] (by first | (go_simp; done) | (go_simp; rfl)) (fun v V' => v = .int .i64 ((1 - t.file : Nat) : Int) ∧ V' = V) (hC.mono fun e V' ⟨h1, h2⟩ => ⟨_, h1, rfl, h2⟩) ?_
  rintro v V' ⟨rfl, rfl⟩
  refine hK.out (Sv w6 gt gb #[.pointer (some ⟨g, 0, none⟩), .int .i64 t.file, .int .i64 t.kept, .int .i64 t.r.gen, .slice pb nb cb, .slice pr t.r.recs.length cr] (t.r.gen + 1) qb mb db qr nr dr) _ _ (Sv.stays _ _ _ _ _ _ _ _ _ _ _) (fun _ W h => h.rg) hV ?_
  clear hK K hC hV
  (try simp only [Act.put, List.getElem_toArray, List.getElem_cons_zero, List.getElem_cons_succ, List.setIfInBounds_toArray, List.set_cons_zero, List.set_cons_succ])
  refine wpDet_ready (rs := [8]) (by kernel_rfl) (by simp) (AllDet.cons rfl (fun V hV K hK => ?_) AllDet.nil)
  rw [if_pos (by rfl)]
  refine wp_value (.pointer (some ⟨gt, 0, none⟩)) V (by first | (go_simp; done) | (go_simp; rfl)) ?_
  refine hK.out (Sv w6 gt gb #[.pointer (some ⟨g, 0, none⟩), .int .i64 t.file, .int .i64 t.kept, .int .i64 t.r.gen, .slice pb nb cb, .slice pr t.r.recs.length cr] (t.r.gen + 1) qb mb db qr nr dr) _ _ (Sv.stays _ _ _ _ _ _ _ _ _ _ _) (fun _ W h => h.rg) hV ?_
  clear hK K hV
  (try simp only [Act.put, List.getElem_toArray, List.getElem_cons_zero, List.getElem_cons_succ, List.setIfInBounds_toArray, List.set_cons_zero, List.set_cons_succ])
  refine wpDet_ready (rs := [9]) (by kernel_rfl) (by simp) (AllDet.cons rfl (fun V hV K hK => ?_) AllDet.nil)
  rw [if_pos (by rfl)]
  refine wp_value (.pointer (some ⟨gt, 3, none⟩)) V (by first | (go_simp; done) | (go_simp; rfl)) ?_
  refine hK.out (Sv w6 gt gb #[.pointer (some ⟨g, 0, none⟩), .int .i64 t.file, .int .i64 t.kept, .int .i64 t.r.gen, .slice pb nb cb, .slice pr t.r.recs.length cr] (t.r.gen + 1) qb mb db qr nr dr) _ _ (Sv.stays _ _ _ _ _ _ _ _ _ _ _) (fun _ W h => h.rg) hV ?_
  clear hK K hV
  (try simp only [Act.put, List.getElem_toArray, List.getElem_cons_zero, List.getElem_cons_succ, List.setIfInBounds_toArray, List.set_cons_zero, List.set_cons_succ])
  refine wpDet_ready (rs := [10]) (by kernel_rfl) (by simp) (AllDet.cons rfl (fun V hV K hK => ?_) AllDet.nil)
  rw [if_pos (by rfl)]
  have hth : V.there gt 3 3 := fun j hj => by
    refine ⟨?_, hV.at0.free (3 + j)⟩
    match j, hj with
    | 0, _ => rw [hV.at0.cell 3]; rfl
    | 1, _ => rw [hV.at0.cell 4]; rfl
    | 2, _ => rw [hV.at0.cell 5]; rfl
  refine wp_store_mid 72 _ _ rfl gt 3 #[.int .i64 (t.r.gen + 1), .slice qb mb db, .slice qr nr dr] rfl rfl hth sizeR (by simp [Value.oneCell']) ?_
  have hz : (Sv w6 gt gb #[.pointer (some ⟨g, 0, none⟩), .int .i64 t.file, .int .i64 t.kept, .int .i64 (t.r.gen + 1), .slice qb mb db, .slice qr nr dr] (t.r.gen + 1) qb mb db qr nr dr) (V.setCells gt 3 (#[.int .i64 (t.r.gen + 1), .slice qb mb db, .slice qr nr dr] : Array Value).toList) := hV.put (((Ex.refl gt V).setCell 3 _).setCell 4 _ |>.setCell 5 _) (At.put345 hV.at0 _ _ _) hgbt
  refine hK.out (Sv w6 gt gb #[.pointer (some ⟨g, 0, none⟩), .int .i64 t.file, .int .i64 t.kept, .int .i64 (t.r.gen + 1), .slice qb mb db, .slice qr nr dr] (t.r.gen + 1) qb mb db qr nr dr) _ _ (Sv.stays _ _ _ _ _ _ _ _ _ _ _) (fun _ W h => h.rg) hz ?_
  clear hK K hV hth hz
  (try simp only [Act.put, List.getElem_toArray, List.getElem_cons_zero, List.getElem_cons_succ, List.setIfInBounds_toArray, List.set_cons_zero, List.set_cons_succ])
  refine wpDet_ready (rs := [11]) (by kernel_rfl) (by simp) (AllDet.cons rfl (fun V hV K hK => ?_) AllDet.nil)
  rw [if_pos (by rfl)]
  refine wp_value (.pointer (some ⟨gt, 0, none⟩)) V (by first | (go_simp; done) | (go_simp; rfl)) ?_
  refine hK.out (Sv w6 gt gb #[.pointer (some ⟨g, 0, none⟩), .int .i64 t.file, .int .i64 t.kept, .int .i64 (t.r.gen + 1), .slice qb mb db, .slice qr nr dr] (t.r.gen + 1) qb mb db qr nr dr) _ _ (Sv.stays _ _ _ _ _ _ _ _ _ _ _) (fun _ W h => h.rg) hV ?_
  clear hK K hV
  (try simp only [Act.put, List.getElem_toArray, List.getElem_cons_zero, List.getElem_cons_succ, List.setIfInBounds_toArray, List.set_cons_zero, List.set_cons_succ])
  refine wpDet_ready (rs := [12]) (by kernel_rfl) (by simp) (AllDet.cons rfl (fun V hV K hK => ?_) AllDet.nil)
  rw [if_pos (by rfl)]
  refine wp_value (.pointer (some ⟨gt, 1, none⟩)) V (by first | (go_simp; done) | (go_simp; rfl)) ?_
  refine hK.out (Sv w6 gt gb #[.pointer (some ⟨g, 0, none⟩), .int .i64 t.file, .int .i64 t.kept, .int .i64 (t.r.gen + 1), .slice qb mb db, .slice qr nr dr] (t.r.gen + 1) qb mb db qr nr dr) _ _ (Sv.stays _ _ _ _ _ _ _ _ _ _ _) (fun _ W h => h.rg) hV ?_
  clear hK K hV
  (try simp only [Act.put, List.getElem_toArray, List.getElem_cons_zero, List.getElem_cons_succ, List.setIfInBounds_toArray, List.set_cons_zero, List.set_cons_succ])
  refine wpDet_ready (rs := [13]) (by kernel_rfl) (by simp) (AllDet.cons rfl (fun V hV K hK => ?_) AllDet.nil)
  rw [if_pos (by rfl)]
  refine wp_store_one _ _ _ rfl gt 1 (.int .i64 ((1 - t.file : Nat) : Int)) rfl rfl _ rfl rfl sizeI (hV.at0.cell 1) (hV.at0.free 1) ?_
  have hz : (Sv w6 gt gb #[.pointer (some ⟨g, 0, none⟩), .int .i64 ((1 - t.file : Nat) : Int), .int .i64 t.kept, .int .i64 (t.r.gen + 1), .slice qb mb db, .slice qr nr dr] (t.r.gen + 1) qb mb db qr nr dr) (V.setCell ⟨gt, 1, none⟩ (.int .i64 ((1 - t.file : Nat) : Int))) := hV.put ((Ex.refl gt V).setCell 1 _) (heap_setCell_same V gt 1 _ _ _ hV.at0) hgbt
  refine hK.out (Sv w6 gt gb #[.pointer (some ⟨g, 0, none⟩), .int .i64 ((1 - t.file : Nat) : Int), .int .i64 t.kept, .int .i64 (t.r.gen + 1), .slice qb mb db, .slice qr nr dr] (t.r.gen + 1) qb mb db qr nr dr) _ _ (Sv.stays _ _ _ _ _ _ _ _ _ _ _) (fun _ W h => h.rg) hz ?_
  clear hK K hV hz
  (try simp only [Act.put, List.getElem_toArray, List.getElem_cons_zero, List.getElem_cons_succ, List.setIfInBounds_toArray, List.set_cons_zero, List.set_cons_succ])
  refine wpDet_ready (rs := [14]) (by kernel_rfl) (by simp) (AllDet.cons rfl (fun V hV K hK => ?_) AllDet.nil)
  rw [if_pos (by rfl)]
  refine wp_value (.pointer (some ⟨gt, 0, none⟩)) V (by first | (go_simp; done) | (go_simp; rfl)) ?_
  refine hK.out (Sv w6 gt gb #[.pointer (some ⟨g, 0, none⟩), .int .i64 ((1 - t.file : Nat) : Int), .int .i64 t.kept, .int .i64 (t.r.gen + 1), .slice qb mb db, .slice qr nr dr] (t.r.gen + 1) qb mb db qr nr dr) _ _ (Sv.stays _ _ _ _ _ _ _ _ _ _ _) (fun _ W h => h.rg) hV ?_
  clear hK K hV
  (try simp only [Act.put, List.getElem_toArray, List.getElem_cons_zero, List.getElem_cons_succ, List.setIfInBounds_toArray, List.set_cons_zero, List.set_cons_succ])
  refine wpDet_ready (rs := [15]) (by kernel_rfl) (by simp) (AllDet.cons rfl (fun V hV K hK => ?_) AllDet.nil)
  rw [if_pos (by rfl)]
  refine wp_value (.pointer (some ⟨gt, 2, none⟩)) V (by first | (go_simp; done) | (go_simp; rfl)) ?_
  refine hK.out (Sv w6 gt gb #[.pointer (some ⟨g, 0, none⟩), .int .i64 ((1 - t.file : Nat) : Int), .int .i64 t.kept, .int .i64 (t.r.gen + 1), .slice qb mb db, .slice qr nr dr] (t.r.gen + 1) qb mb db qr nr dr) _ _ (Sv.stays _ _ _ _ _ _ _ _ _ _ _) (fun _ W h => h.rg) hV ?_
  clear hK K hV
  (try simp only [Act.put, List.getElem_toArray, List.getElem_cons_zero, List.getElem_cons_succ, List.setIfInBounds_toArray, List.set_cons_zero, List.set_cons_succ])
  refine wpDet_ready (rs := [16]) (by kernel_rfl) (by simp) (AllDet.cons rfl (fun V hV K hK => ?_) AllDet.nil)
  rw [if_pos (by rfl)]
  refine wp_store_one _ _ _ rfl gt 2 (.int .i64 nr) rfl rfl _ rfl rfl sizeI (hV.at0.cell 2) (hV.at0.free 2) ?_
  have hz : (Sv w6 gt gb #[.pointer (some ⟨g, 0, none⟩), .int .i64 ((1 - t.file : Nat) : Int), .int .i64 nr, .int .i64 (t.r.gen + 1), .slice qb mb db, .slice qr nr dr] (t.r.gen + 1) qb mb db qr nr dr) (V.setCell ⟨gt, 2, none⟩ (.int .i64 nr)) := hV.put ((Ex.refl gt V).setCell 2 _) (heap_setCell_same V gt 2 _ _ _ hV.at0) hgbt
  refine hK.out (Sv w6 gt gb #[.pointer (some ⟨g, 0, none⟩), .int .i64 ((1 - t.file : Nat) : Int), .int .i64 nr, .int .i64 (t.r.gen + 1), .slice qb mb db, .slice qr nr dr] (t.r.gen + 1) qb mb db qr nr dr) _ _ (Sv.stays _ _ _ _ _ _ _ _ _ _ _) (fun _ W h => h.rg) hz ?_
  clear hK K hV hz
  (try simp only [Act.put, List.getElem_toArray, List.getElem_cons_zero, List.getElem_cons_succ, List.setIfInBounds_toArray, List.set_cons_zero, List.set_cons_succ])
  refine wpDet_done (by kernel_rfl) (fun W7 hW7 => ?_) _
  have hw1 : w0.heap.size ≤ w1.heap.size := hb1.size
  have hnS : ∀ k, w1.heap.size ≤ k → k < w4.heap.size → ¬ (k = g ∨ farO own w0.heap.size w4.heap.size k = mark a (1 - t.file)) := fun k h1 h2 => Fre.not (own := farO own w0.heap.size w4.heap.size) (g := g) ⟨farO_in (Nat.le_trans hw1 h1) h2, by omega⟩ ha hi8
  have hCx := Ch.of_ex hW7.ex
  have hnX : ∀ k, w1.heap.size ≤ k → k < w6.heap.size → ¬ (k = gt) := fun k h1 _ => by omega
  have hO7 := (hO4.chB hc5 hnS).chB hCx hnX
  have hV7 := (hV4.chB hc5 hnS).chB hCx hnX
  have hS7 := (hS4.chB hc5 hnS).chB hCx hnX
  have how : own5 gt = farM := (ho5 gt (Nat.lt_of_lt_of_le hgtl hb04.size)).trans hogt
  have hD7 := hD5.exF ha hW7.ex how hT.fg.2
  have hA7 := hW7.at0
  have hc7 : Ch (fun k => k = g ∨ k = gt ∨ own k = mark a (1 - t.file)) w0 W7 := ((Ch.of_below hb04 (fun k => k = g ∨ k = gt ∨ own k = mark a (1 - t.file))).then hc5 (fun k hk e => e.elim Or.inl (fun e => Or.inr (Or.inr (by rw [farO_low hk] at e; exact e))))).then hCx (fun k _ e => Or.inr (Or.inl e))
  have hn5 : ∀ k, k < w0.heap.size → own5 k = own k := fun k hk => (ho5 k (Nat.lt_of_lt_of_le hk hb04.size)).trans (farO_low hk)
  have hTO : TO W7 own5 w0.heap.size g gt ⟨1 - t.file, nl, ⟨t.r.gen + 1, base, recs⟩⟩ qb mb db qr dr us2 := by
    refine ⟨hO7.lower hw1, fun x e h0 => ?_, ?_, fun x e h0 => ?_, hS7.lower hw1, fun i q m d hi e x ex h0 => ?_⟩
    · have h1 := hO4.fre (w := w0) (own := own) (g := g) (hi := w4.heap.size) (Nat.le_refl _) hgl hw1 x e h0
      exact ⟨h1.1.to h1.2.2 ho5, by omega⟩
    · show OwG 22 W7 w0.heap.size qr recs.length dr us2
      rw [← HNR2.out]
      exact (hV7.lowerB hw1).g
    · have h1 := hV4.fre (w := w0) (own := own) (g := g) (hi := w4.heap.size) (Nat.le_refl _) hgl hw1 x e h0
      exact ⟨h1.1.to h1.2.2 ho5, by omega⟩
    · obtain ⟨q', m', d', e', hr⟩ := hS4.2 i hi
      rw [e] at e'
      cases e'
      have h1 := hr.fre (w := w0) (own := own) (g := g) (hi := w4.heap.size) (Nat.le_refl _) hgl hw1 x ex h0
      exact ⟨h1.1.to h1.2.2 ho5, by omega⟩
  have hT7 : TB W7 own5 g gt ⟨1 - t.file, nl, ⟨t.r.gen + 1, base, recs⟩⟩ qb mb db qr dr us2 := by
    refine hTO.tb ?_ ⟨how, hT.fg.2⟩
    show At 74 W7 gt #[.pointer (some ⟨g, 0, none⟩), .int .i64 ((1 - t.file : Nat) : Int), .int .i64 (nl : Int), .int .i64 (t.r.gen + 1), .slice qb mb db, .slice qr recs.length dr]
    rw [HNL.out, ← HNR2.out]
    exact hA7
  go_wp2_with fail
  go_ret
  exact ⟨rfl, own5, d5, qb, mb, db, qr, dr, us2, hD7, hT7, hTO, hn5, hc7⟩

end Go.Proofs.Ytpjhadaiodnnaaa.M

namespace Go.Proofs.Ytpjhadaiodnnaaa.M
open Go.ChangeShapes Go.WideShapes Go.ChangeAt Go.RowKit
set_option linter.unusedSimpArgs false

set_option maxRecDepth 20000 in
theorem TLen_ok (w : World) (gt g : Nat) (p : Option Addr) (n c : Nat) (h0 : w.cell? ⟨gt, 0, none⟩ = some (.pointer (some ⟨g, 0, none⟩))) (h5 : w.cell? ⟨gt, 5, none⟩ = some (.slice p n c)) : Calls Try.prog 34 #[.pointer (some ⟨gt, 0, none⟩)] w fun e w' => e = .returned (.int .i64 n) ∧ Below w.heap.size w w' := by
  have hM := tmade_yes w gt g h0
  go_enter Try.func34, Try.ntmps34
  go_wp2_with fail
  refine hM.mono ?_
  rintro e w0 ⟨rfl, hw0⟩
  subst hw0
  clear hM
  go_wp2_with fail
  go_ret
  exact ⟨rfl, Below.refl _ _⟩

set_option maxRecDepth 20000 in
theorem TKept_ok (w : World) (gt g : Nat) (n : Nat) (h0 : w.cell? ⟨gt, 0, none⟩ = some (.pointer (some ⟨g, 0, none⟩))) (h2 : w.cell? ⟨gt, 2, none⟩ = some (.int .i64 n)) : Calls Try.prog 35 #[.pointer (some ⟨gt, 0, none⟩)] w fun e w' => e = .returned (.int .i64 n) ∧ Below w.heap.size w w' := by
  have hM := tmade_yes w gt g h0
  go_enter Try.func35, Try.ntmps35
  go_wp2_with fail
  refine hM.mono ?_
  rintro e w0 ⟨rfl, hw0⟩
  subst hw0
  clear hM
  go_wp2_with fail
  go_ret
  exact ⟨rfl, Below.refl _ _⟩

set_option maxRecDepth 20000 in
theorem TBase_ok (w : World) (gt g : Nat) (p : Option Addr) (n c : Nat) (xs : List Int) (h0 : w.cell? ⟨gt, 0, none⟩ = some (.pointer (some ⟨g, 0, none⟩))) (h4 : w.cell? ⟨gt, 4, none⟩ = some (.slice p n c)) (hr : Rd .u8 w p n c xs) (hn : n ≤ 1099511627776) : Calls Try.prog 30 #[.pointer (some ⟨gt, 0, none⟩)] w fun e w' => (∃ p' c', e = .returned (.slice p' n c') ∧ Ow .u8 5 w' w.heap.size p' n c' xs) ∧ Below w.heap.size w w' := by
  have hM := tmade_yes w gt g h0
  have hC := bcloneO p n c xs w hr hn
  go_enter Try.func30, Try.ntmps30
  go_wp2_with fail
  refine hM.mono ?_
  rintro e w0 ⟨rfl, hw0⟩
  subst hw0
  clear hM
  go_wp2_with fail
  refine hC.mono ?_
  rintro e w1 ⟨p', c', rfl, hO, hb⟩
  clear hC
  go_wp2_with fail
  go_ret
  exact ⟨⟨p', c', rfl, hO⟩, hb⟩

set_option maxRecDepth 20000 in
set_option maxHeartbeats 2000000 in
theorem TSync_ok (w : World) (B : Nat) (own : Nat → Nat) (a g : Nat) (d : Dk) (m : PD) (ha : a ≤ 100) (h : DA w B own a g d m) (hm : Good m) (gt : Nat) (t : TP) (pb : Option Addr) (nb cb : Nat) (pr : Option Addr) (cr : Nat) (vs : List Value) (hT : TB w own g gt t pb nb cb pr cr vs) (hfile : t.file ≤ 1) :
    Calls Try.prog 20 #[.pointer (some ⟨gt, 0, none⟩)] w fun e w' => e = .returned (.int .i64 0) ∧ ∃ own2 d2, DA w' B own2 a g d2 { m with f := upP m.f t.file ⟨(m.f t.file).told, (m.f t.file).told, false⟩ } ∧ TB w' own2 g gt { t with kept := t.r.recs.length } pb nb cb pr cr vs ∧ (∀ k, k < w.heap.size → own2 k = own k) ∧ Ch (fun k => k = g ∨ k = gt ∨ own k = mark a t.file) w w' := by
  have hi8 : t.file < 8 := by omega
  have hM := tmade_yes w gt g (hT.blk.cell 0)
  go_enter Try.func20, Try.ntmps20
  go_wp2_with fail
  refine hM.mono ?_
  rintro e w0 ⟨rfl, hw0⟩
  subst hw0
  clear hM
  have hS0w : ∀ W, Bl w0 W → (W.cell? ⟨gt, 0, none⟩ = some (.pointer (some ⟨g, 0, none⟩)) ∧ W.cell? ⟨gt, 1, none⟩ = some (.int .i64 t.file)) := fun W hW => ⟨cell_below (Bl.out' hW) (hT.blk.cell 0), cell_below (Bl.out' hW) (hT.blk.cell 1)⟩
  have hS0 : Bl w0 w0.drew := (Below.refl _ _).drew
  go_wp2_with fail
  refine wp_region_det [0, 1, 2, 3, 4, 5, 6, 7] (fun W => W.cell? ⟨gt, 0, none⟩ = some (.pointer (some ⟨g, 0, none⟩)) ∧ W.cell? ⟨gt, 1, none⟩ = some (.int .i64 t.file)) (Bl w0) (by kernel_rfl) hS0 ?_
  refine wpDet_take ?vA0 (Bl.stays w0) hS0w (i := 0) rfl (by kernel_rfl) (by kernel_rfl) (by kernel_rfl) (by kernel_rfl) (fun _ _ _ h => h) (Gives.value (by rfl) ?yA0) ?rA0
  case yA0 => (intro w' hSw; (try dsimp only at hSw); go_simp; try with_reducible rfl)
  (try simp only [Act.put, List.getElem_toArray, List.getElem_cons_zero, List.getElem_cons_succ, List.setIfInBounds_toArray, List.set_cons_zero, List.set_cons_succ])
  refine wpDet_take ?vA1 (Bl.stays w0) hS0w (i := 1) rfl (by kernel_rfl) (by kernel_rfl) (by kernel_rfl) (by kernel_rfl) (fun _ _ _ h => h) (Gives.value (by rfl) ?yA1) ?rA1
  case yA1 => (intro w' hSw; (try dsimp only at hSw); go_simp; try with_reducible rfl)
  (try simp only [Act.put, List.getElem_toArray, List.getElem_cons_zero, List.getElem_cons_succ, List.setIfInBounds_toArray, List.set_cons_zero, List.set_cons_succ])
  refine wpDet_take ?vA2 (Bl.stays w0) hS0w (i := 2) rfl (by kernel_rfl) (by kernel_rfl) (by kernel_rfl) (by kernel_rfl) (fun _ _ _ h => h) (Gives.value (by rfl) ?yA2) ?rA2
  case yA2 => (intro w' hSw; (try dsimp only at hSw); go_simp; try with_reducible rfl)
  (try simp only [Act.put, List.getElem_toArray, List.getElem_cons_zero, List.getElem_cons_succ, List.setIfInBounds_toArray, List.set_cons_zero, List.set_cons_succ])
  refine wpDet_take ?vA3 (Bl.stays w0) hS0w (i := 3) rfl (by kernel_rfl) (by kernel_rfl) (by kernel_rfl) (by kernel_rfl) (fun _ _ _ h => h) (Gives.value (by rfl) ?yA3) ?rA3
  case yA3 => (intro w' hSw; have hz0 := hSw.1; (try dsimp only at hSw); go_simp; try with_reducible rfl)
  (try simp only [Act.put, List.getElem_toArray, List.getElem_cons_zero, List.getElem_cons_succ, List.setIfInBounds_toArray, List.set_cons_zero, List.set_cons_succ])
  refine wpDet_take ?vA4 (Bl.stays w0) hS0w (i := 4) rfl (by kernel_rfl) (by kernel_rfl) (by kernel_rfl) (by kernel_rfl) (fun _ _ _ h => h) (Gives.value (by rfl) ?yA4) ?rA4
  case yA4 => (intro w' hSw; (try dsimp only at hSw); go_simp; try with_reducible rfl)
  (try simp only [Act.put, List.getElem_toArray, List.getElem_cons_zero, List.getElem_cons_succ, List.setIfInBounds_toArray, List.set_cons_zero, List.set_cons_succ])
  refine wpDet_take ?vA5 (Bl.stays w0) hS0w (i := 5) rfl (by kernel_rfl) (by kernel_rfl) (by kernel_rfl) (by kernel_rfl) (fun _ _ _ h => h) (Gives.value (by rfl) ?yA5) ?rA5
  case yA5 => (intro w' hSw; (try dsimp only at hSw); go_simp; try with_reducible rfl)
  (try simp only [Act.put, List.getElem_toArray, List.getElem_cons_zero, List.getElem_cons_succ, List.setIfInBounds_toArray, List.set_cons_zero, List.set_cons_succ])
  refine wpDet_take ?vA6 (Bl.stays w0) hS0w (i := 6) rfl (by kernel_rfl) (by kernel_rfl) (by kernel_rfl) (by kernel_rfl) (fun _ _ _ h => h) (Gives.value (by rfl) ?yA6) ?rA6
  case yA6 => (intro w' hSw; (try dsimp only at hSw); go_simp; try with_reducible rfl)
  (try simp only [Act.put, List.getElem_toArray, List.getElem_cons_zero, List.getElem_cons_succ, List.setIfInBounds_toArray, List.set_cons_zero, List.set_cons_succ])
  refine wpDet_take ?vA7 (Bl.stays w0) hS0w (i := 7) rfl (by kernel_rfl) (by kernel_rfl) (by kernel_rfl) (by kernel_rfl) (fun _ _ _ h => h) (Gives.value (by rfl) ?yA7) ?rA7
  case yA7 => (intro w' hSw; have hz0 := hSw.2; (try dsimp only at hSw); go_simp; try with_reducible rfl)
  (try simp only [Act.put, List.getElem_toArray, List.getElem_cons_zero, List.getElem_cons_succ, List.setIfInBounds_toArray, List.set_cons_zero, List.set_cons_succ])
  refine wpDet_ready (rs := [8]) (by kernel_rfl) (by simp) (AllDet.cons rfl (fun V hV K hK => ?_) AllDet.nil)
  rw [if_pos (by rfl)]
  have hbV := Bl.out' hV
  have hS := Sync_ok V B own a g d m (h.below hbV) hm.r0 hm.up hm.few t.file hi8
  rw [act0 hm.left, gone0 hm.left] at hS
  refine wp_enterX 54 #[.pointer (some ⟨g, 0, none⟩), .int .i64 t.file] (by first | (go_simp; done) | (go_simp; rfl)) (fun v V' => v = .int .i64 0 ∧ ∃ own1 d1, DA V' B own1 a g d1 { m with f := upP m.f t.file ⟨(m.f t.file).told, (m.f t.file).told, false⟩ } ∧ (∀ k, k < V.heap.size → own1 k = own k) ∧ Ch (fun k => k = g ∨ own k = mark a t.file) V V') (hS.mono fun e V' ⟨h1, h2⟩ => ⟨_, h1, rfl, h2⟩) ?_
  rintro v V1 ⟨rfl, own1, d1, h1, ho1, hc1⟩
  have hT1 := TB.ch ha hi8 (hT.below hbV) hc1 ho1
  have hcc := (Ch.of_below hbV (fun k => k = g ∨ own k = mark a t.file)).trans hc1
  have hoo : ∀ k, k < w0.heap.size → own1 k = own k := fun k hk => ho1 k (Nat.lt_of_lt_of_le hk hbV.size)
  have c01 := hT1.blk.cell 0
  have c11 := hT1.blk.cell 1
  have hS1w : ∀ W, Bl V1 W → (W.cell? ⟨gt, 0, none⟩ = some (.pointer (some ⟨g, 0, none⟩)) ∧ W.cell? ⟨gt, 1, none⟩ = some (.int .i64 t.file)) := fun W hW => ⟨cell_below (Bl.out' hW) c01, cell_below (Bl.out' hW) c11⟩
  refine hK.out (Bl V1) _ _ (Bl.stays V1) (fun _ W h => hS1w W h) (Below.refl _ _) ?_
  clear hK K hV hS ho1 hc1 hbV c01 c11
  (try simp only [Act.put, List.getElem_toArray, List.getElem_cons_zero, List.getElem_cons_succ, List.setIfInBounds_toArray, List.set_cons_zero, List.set_cons_succ])
  refine wpDet_ready (rs := [9]) (by kernel_rfl) (by simp) (AllDet.cons rfl (fun V hV K hK => ?_) AllDet.nil)
  rw [if_pos (by rfl)]
  refine wp_value (.int .i64 0) V (by first | (go_simp; done) | (go_simp; rfl)) ?_
  refine hK.out (Bl V1) _ _ (Bl.stays V1) (fun _ W h => hS1w W h) hV ?_
  clear hK K hV
  (try simp only [Act.put, List.getElem_toArray, List.getElem_cons_zero, List.getElem_cons_succ, List.setIfInBounds_toArray, List.set_cons_zero, List.set_cons_succ])
  refine wpDet_done (by kernel_rfl) (fun W2 hW2 => ?_) _
  have hbW := Bl.out' hW2
  have hT2 := hT1.below hbW
  have h2 := h1.below hbW
  have hc2 := hcc.trans (Ch.of_below hbW _)
  have c5 := hT2.blk.cell 5
  have c2 := hT2.blk.cell 2
  have f2 := hT2.blk.free 2
  have hot : own1 gt = farM := hT2.fg.1
  clear hS1w hW2 hbW h1 hT1 hcc hS0w hS0
  go_wp2_with fail
  go_ret
  have hEx : Ex gt W2 (W2.setCell ⟨gt, 2, none⟩ (.int .i64 t.r.recs.length)) := (Ex.refl gt W2).setCell 2 _
  have hCx := Ch.of_ex hEx
  refine ⟨rfl, own1, d1, h2.exF ha hEx hot hT.fg.2, ?_, hoo, ?_⟩
  · exact TB.put hT2 hEx t.file t.r.recs.length (heap_setCell_same W2 gt 2 _ _ _ hT2.blk)
  · exact (hc2.mono (T := fun k => k = g ∨ k = gt ∨ own k = mark a t.file) (fun k _ e => e.elim Or.inl fun e => Or.inr (Or.inr e))).then hCx (fun k _ e => Or.inr (Or.inl e))

end Go.Proofs.Ytpjhadaiodnnaaa.M

namespace Go.Proofs.Ytpjhadaiodnnaaa.M
open Go.ChangeShapes Go.WideShapes Go.ChangeAt Go.RowKit
set_option linter.unusedSimpArgs false

/-- What a growing row leaves: all but its own block. -/
theorem Grow.ch2 {w w' : World} {p p' : Option Addr} {c c' : Nat} (h : Grow w w' p c p' c' ∧ (c = 0 → w.grownBy w' none)) (S : Nat → Prop) (hs : ∀ a, p = some a → 0 < c → S a.block) : Ch S w w' := by
  rcases Nat.eq_zero_or_pos c with h0 | h0
  · have h2 := h.2 h0
    exact ⟨h2.os, h2.tape, h2.output, h2.size, fun j hj _ => h2.block j hj fun e => by cases e⟩
  · exact h.1.ch S (fun a e => hs a e h0)

end Go.Proofs.Ytpjhadaiodnnaaa.M

namespace Go.Proofs.Ytpjhadaiodnnaaa.M
open Go.ChangeShapes Go.WideShapes Go.ChangeAt Go.RowKit
set_option linter.unusedSimpArgs false

theorem ownsRow_chC {S : Nat → Prop} {w w' : World} {B : Nat} {e : TypeId} {sz n c : Nat} {p : Option Addr} {xs : List Value} (h : w.ownsRow B e sz (.slice p n c) n xs) (hc : Ch S w w') (hs : ∀ x, p = some x → ¬ S x.block) : w'.ownsRow B e sz (.slice p n c) n xs := by
  refine ⟨h.1, ?_⟩
  rcases h.2 with h2 | ⟨g', cap, cur, hv', hg, hh, r⟩
  · exact Or.inl h2
  · refine Or.inr ⟨g', cap, cur, hv', hg, ?_, r⟩
    injection hv' with e1
    rw [hc.block g' (Array.getElem?_eq_some_iff.1 hh).1 (hs _ e1)]
    exact hh

theorem Ow.chC {k : IntKind} {u : TypeId} {S : Nat → Prop} {w w' : World} {B n c : Nat} {p : Option Addr} {xs : List Int} (h : Ow k u w B p n c xs) (hc : Ch S w w') (hs : ∀ x, p = some x → 0 < c → ¬ S x.block) : Ow k u w' B p n c xs := by
  rcases Nat.eq_zero_or_pos c with h0 | h0
  · exact ⟨h.len, Or.inl ⟨by have := h.cap; omega, h0⟩⟩
  · exact ⟨h.len, h.own.imp id fun h1 => ownsRow_chC h1 hc fun x e => hs x e h0⟩

theorem OwV.chC {u : TypeId} {S : Nat → Prop} {w w' : World} {B n c : Nat} {p : Option Addr} {xs : List Value} (h : OwV u w B p n c xs) (hc : Ch S w w') (hs : ∀ x, p = some x → 0 < c → ¬ S x.block) : OwV u w' B p n c xs := by
  rcases Nat.eq_zero_or_pos c with h0 | h0
  · exact ⟨h.len, Or.inl ⟨by have := h.cap; omega, h0⟩⟩
  · exact ⟨h.len, h.own.imp id fun h1 => ownsRow_chC h1 hc fun x e => hs x e h0⟩

theorem Ow.ltC {k : IntKind} {u : TypeId} {w : World} {B n c : Nat} {p : Option Addr} {xs : List Int} (h : Ow k u w B p n c xs) (x : Addr) (e : p = some x) (h0 : 0 < c) : B ≤ x.block ∧ x.block < w.heap.size := by
  rcases h.own with ⟨_, h1⟩ | h1
  · omega
  · exact World.ownsRow.lt h1 x.block (by rw [e]; rfl)

theorem OwV.ltC {u : TypeId} {w : World} {B n c : Nat} {p : Option Addr} {xs : List Value} (h : OwV u w B p n c xs) (x : Addr) (e : p = some x) (h0 : 0 < c) : B ≤ x.block ∧ x.block < w.heap.size := by
  rcases h.own with ⟨_, h1⟩ | h1
  · omega
  · exact World.ownsRow.lt h1 x.block (by rw [e]; rfl)

theorem Ow.ltC' {k : IntKind} {u : TypeId} {w : World} {B n c : Nat} {p : Option Addr} {xs : List Int} (h : Ow k u w B p n c xs) (x : Addr) (e : p = some x) (h0 : 0 < n) : B ≤ x.block ∧ x.block < w.heap.size := h.ltC x e (Nat.lt_of_lt_of_le h0 h.cap)

theorem TO.slt {w : World} {own : Nat → Nat} {Bv g gt : Nat} {t : TP} {pb : Option Addr} {nb cb : Nat} {pr : Option Addr} {cr : Nat} {vs : List Value} (h : TO w own Bv g gt t pb nb cb pr cr vs) : ∀ i q m d, i < vs.length → vs.getD i undef = .slice q m d → ∀ x, q = some x → 0 < d → x.block < w.heap.size := fun i q m d hi e x ex h0 => by
  obtain ⟨q', m', d', e', hr⟩ := h.sls.2 i hi
  rw [e] at e'
  cases e'
  exact (hr.ltC x ex h0).2

/-- A tape's own memory, where other blocks change. -/
theorem TO.ch {S : Nat → Prop} {w w' : World} {own own2 : Nat → Nat} {Bv g gt : Nat} {t : TP} {pb : Option Addr} {nb cb : Nat} {pr : Option Addr} {cr : Nat} {vs : List Value} (h : TO w own Bv g gt t pb nb cb pr cr vs) (hc : Ch S w w') (hs : ∀ k, Fre own g k → k ≠ gt → ¬ S k) (ho : ∀ k, k < w.heap.size → own k = farM → own2 k = farM) : TO w' own2 Bv g gt t pb nb cb pr cr vs := by
  have hl := h.slt
  refine ⟨h.bas.chC hc (fun x e h0 => hs _ (h.fb x e h0).1 (h.fb x e h0).2), fun x e h0 => ⟨⟨ho _ (h.bas.ltC x e h0).2 (h.fb x e h0).1.1, (h.fb x e h0).1.2⟩, (h.fb x e h0).2⟩, h.rcs.chC hc (fun x e h0 => hs _ (h.fv x e h0).1 (h.fv x e h0).2), fun x e h0 => ⟨⟨ho _ (h.rcs.ltC x e h0).2 (h.fv x e h0).1.1, (h.fv x e h0).1.2⟩, (h.fv x e h0).2⟩, ⟨h.sls.1, fun i hi => ?_⟩, fun i q m d hi e x ex h0 => ⟨⟨ho _ (hl i q m d hi e x ex h0) (h.fs i q m d hi e x ex h0).1.1, (h.fs i q m d hi e x ex h0).1.2⟩, (h.fs i q m d hi e x ex h0).2⟩⟩
  obtain ⟨q, m, d, e, r⟩ := h.sls.2 i hi
  exact ⟨q, m, d, e, r.chC hc (fun x ex h0 => hs _ (h.fs i q m d hi e x ex h0).1 (h.fs i q m d hi e x ex h0).2)⟩

theorem TO.below {w w' : World} {own : Nat → Nat} {Bv g gt : Nat} {t : TP} {pb : Option Addr} {nb cb : Nat} {pr : Option Addr} {cr : Nat} {vs : List Value} (h : TO w own Bv g gt t pb nb cb pr cr vs) (hb : Below w.heap.size w w') : TO w' own Bv g gt t pb nb cb pr cr vs :=
  h.ch (Ch.of_below hb (fun _ => False)) (fun _ _ _ h => h) (fun _ _ e => e)

/-- What was made since is marked as another's. -/
theorem DA.marked2 {w : World} {B lo : Nat} {own : Nat → Nat} {a g : Nat} {d : Dk} {m : PD} (h : DA w B own a g d m) (h0 : ∀ k, lo ≤ k → own k = 0) (hgl : g < lo) (hk : ∀ x, d.kp = some x → x.block < lo) : DA w B (farO own lo w.heap.size) a g d m := by
  refine h.reown (fun k e => ?_) ?_ (fun x e => ?_) (fun k hk => ?_)
  · unfold farO
    rw [if_neg]
    intro hk
    have h1 := h0 k hk.1
    rw [h1] at e
    unfold mark at e
    omega
  · rw [farO_low hgl]; exact h.og
  · rw [farO_low (hk x e)]; exact (h.ok x e).1
  · unfold farO
    rw [if_neg (by omega)]
    exact h.fr k hk

/-- A tape behind the append to its records. -/
theorem put_mid {W2 V V8 : World} {B : Nat} {own : Nat → Nat} {a g gt Bv n na c7 : Nat} {d : Dk} {m : PD} {t : TP} {pb : Option Addr} {nb cb : Nat} {pr : Option Addr} {cr : Nat} {vs : List Value} {p7 p8 : Option Addr} {c8 : Nat} {xs : List Int} (ha : a ≤ 100) (hBv : Bv ≤ W2.heap.size) (hD : DA W2 B own a g d m) (hTO : TO W2 own Bv g gt t pb nb cb pr cr vs) (hA : At 74 W2 gt #[.pointer (some ⟨g, 0, none⟩), .int .i64 t.file, .int .i64 t.kept, .int .i64 t.r.gen, .slice pb nb cb, .slice pr t.r.recs.length cr]) (hb : Below W2.heap.size W2 V) (hn : n = t.r.recs.length) (hO7 : Ow .u8 5 V W2.heap.size p7 na c7 xs) (hO8 : OwG 22 V8 Bv p8 (n + 1) c8 (vs ++ [.slice p7 na c7])) (hg8 : Grow V V8 pr cr p8 c8 ∧ (cr = 0 → V.grownBy V8 none)) (hk8 : Kept 22 V V8) :
    DA V8 B (farO own W2.heap.size V8.heap.size) a g d m ∧ TO V8 (farO own W2.heap.size V8.heap.size) Bv g gt ⟨t.file, t.kept, ⟨t.r.gen, t.r.base, t.r.recs ++ [xs]⟩⟩ pb nb cb p8 c8 (vs ++ [.slice p7 na c7]) ∧ At 74 V8 gt #[.pointer (some ⟨g, 0, none⟩), .int .i64 t.file, .int .i64 t.kept, .int .i64 t.r.gen, .slice pb nb cb, .slice pr n cr] ∧ Ch (fun k => ∃ x, pr = some x ∧ 0 < cr ∧ k = x.block) W2 V8 := by
  have hCg : Ch (fun k => ∃ x, pr = some x ∧ 0 < cr ∧ k = x.block) V V8 := Grow.ch2 hg8 _ (fun x e h0 => ⟨x, e, h0, rfl⟩)
  have hnS : ∀ k, own k ≠ farM → ¬ (∃ x, pr = some x ∧ 0 < cr ∧ k = x.block) := fun k hk ⟨x, e, h0, e2⟩ => hk (by rw [e2]; exact (hTO.fv x e h0).1.1)
  have hgl : g < W2.heap.size := hD.dc.lt
  have hgt : gt < W2.heap.size := hA.lt
  have h3 := hb.size
  have h4 := hCg.size
  have hD8 : DA V8 B own a g d m := (hD.below hb).ch hCg (fun ⟨x, e, h0, e2⟩ => (hTO.fv x e h0).1.2 e2.symm) (fun i k hi e => hnS k (by rw [e]; exact (far_mark ha hi).symm)) (fun x e => hnS _ (by rw [(hD.ok x e).1]; unfold farM; omega)) (fun _ _ => rfl) (fun k hk => hD.fr k (by omega))
  have hD9 := hD8.marked2 (lo := W2.heap.size) (fun k hk => hD.fr k hk) hgl (fun x e => (hD.ok x e).2.2)
  have hol : ∀ k, k < W2.heap.size → own k = farM → farO own W2.heap.size V8.heap.size k = farM := fun k hk e => (farO_low hk).trans e
  refine ⟨hD9, ⟨?_, ?_, ?_, ?_, ?_, ?_⟩, ?_, (Ch.of_below hb _).trans hCg⟩
  · exact (hTO.bas.below hb).keptT hk8 (by decide)
  · exact fun x e h0 => ⟨⟨hol _ (hTO.bas.ltC x e h0).2 (hTO.fb x e h0).1.1, (hTO.fb x e h0).1.2⟩, (hTO.fb x e h0).2⟩
  · show OwG 22 V8 Bv p8 (t.r.recs ++ [xs]).length c8 (vs ++ [.slice p7 na c7])
    rw [List.length_append, ← hn]
    exact hO8
  · intro x e h0
    rcases hg8.1 with ⟨e1, e2, _⟩ | ⟨_, hf⟩
    · rw [e1] at e
      rw [e2] at h0
      exact ⟨⟨hol _ (hTO.rcs.ltC x e h0).2 (hTO.fv x e h0).1.1, (hTO.fv x e h0).1.2⟩, (hTO.fv x e h0).2⟩
    · have h1 := hf x e
      have h2 := (hO8.ltC x e h0).2
      exact ⟨⟨farO_in (by omega) h2, by omega⟩, by omega⟩
  · exact ((hTO.sls.below hb).kept hk8 (by decide)).snoc ((hO7.lower hBv).keptT hk8 (by decide))
  · intro i q m' d' hi e x ex h0
    by_cases hlt : i < vs.length
    · rw [List.getD_eq_getElem?_getD, List.getElem?_append_left hlt, ← List.getD_eq_getElem?_getD] at e
      have h1 := hTO.fs i q m' d' hlt e x ex h0
      exact ⟨⟨hol _ (hTO.slt i q m' d' hlt e x ex h0) h1.1.1, h1.1.2⟩, h1.2⟩
    · have hi2 : i = vs.length := by
        rw [List.length_append] at hi
        have : ([Value.slice p7 na c7]).length = 1 := rfl
        omega
      subst hi2
      rw [List.getD_eq_getElem?_getD, List.getElem?_append_right (Nat.le_refl _), Nat.sub_self] at e
      cases e
      have h1 := hO7.ltC x ex h0
      exact ⟨⟨farO_in h1.1 (by omega), by omega⟩, by omega⟩
  · have h1 := (hA.below hb).ch hCg (fun ⟨x, e, h0, e2⟩ => (hTO.fv x e h0).2 e2.symm)
    rw [hn]
    exact h1

set_option maxRecDepth 20000 in
set_option maxHeartbeats 4000000 in
theorem TPut_ok (w : World) (B : Nat) (own : Nat → Nat) (a g : Nat) (d : Dk) (m : PD) (ha : a ≤ 100) (h : DA w B own a g d m) (hm : Good m) (hB : B ≤ w.heap.size) (gt : Nat) (t : TP) (pb : Option Addr) (nb cb : Nat) (pr : Option Addr) (cr : Nat) (vs : List Value) (hT : TB w own g gt t pb nb cb pr cr vs) (hfile : t.file ≤ 1) (Bv : Nat) (hBv : Bv ≤ w.heap.size) (hTO : TO w own Bv g gt t pb nb cb pr cr vs) (hcount : t.r.recs.length < 1000000)
    (pa : Option Addr) (na ca : Nat) (xs : List Int) (hpa : Rd .u8 w pa na ca xs) (hby : By xs) (hna : na ≤ 8192) (hda : ∀ x, pa = some x → 0 < na → own x.block ≠ mark a t.file ∧ x.block ≠ g) (hroom : m.used + (sealL xs).length ≤ m.room) :
    Calls Try.prog 23 #[.pointer (some ⟨gt, 0, none⟩), .slice pa na ca] w fun e w' => e = .returned (.int .i64 0) ∧ ∃ own2 d2 pr2 cr2 q c, DA w' B own2 a g d2 { m with f := upP m.f t.file { m.f t.file with told := (m.f t.file).told ++ sealL xs } } ∧ TB w' own2 g gt ⟨t.file, t.kept, ⟨t.r.gen, t.r.base, t.r.recs ++ [xs]⟩⟩ pb nb cb pr2 cr2 (vs ++ [.slice q na c]) ∧ TO w' own2 Bv g gt ⟨t.file, t.kept, ⟨t.r.gen, t.r.base, t.r.recs ++ [xs]⟩⟩ pb nb cb pr2 cr2 (vs ++ [.slice q na c]) ∧ (∀ k, k < w.heap.size → own2 k = own k) ∧ Ch (fun k => k = g ∨ k = gt ∨ own k = mark a t.file ∨ ∃ x, pr = some x ∧ 0 < cr ∧ k = x.block) w w' := by
  have hi8 : t.file < 8 := by omega
  have hgl : g < w.heap.size := h.dc.lt
  have hgtl : gt < w.heap.size := hT.blk.lt
  have hM := tmade_yes w gt g (hT.blk.cell 0)
  have hSe := seal_any pa na ca xs w hpa hby hna
  obtain ⟨i1, hi1, hy0, hy1, hy2⟩ := info_parts info1
  obtain ⟨n, HNN⟩ : ∃ z, z = t.r.recs.length := ⟨_, rfl⟩
  have HNn : Hid (n = t.r.recs.length) := HNN
  have HNA : Hid (na ≤ 1099511627776) := by show _ ≤ _; omega
  have HB1 : Hid ((n + 1) * 24 ≤ 140737488355328) := by show _ ≤ _; omega
  have HB2 : Hid (n + 1 ≤ maxLen) := by show _ ≤ _; unfold maxLen; omega
  clear HNN hna hcount
  go_enter Try.func23, Try.ntmps23
  go_wp2_with fail
  refine hM.mono ?_
  rintro e w0 ⟨rfl, hw0⟩
  subst hw0
  clear hM
  go_wp2_with fail
  refine hSe.mono ?_
  rintro e w1 ⟨p1, n1, c1, rfl, hO1, hb1⟩
  clear hSe
  have HRg : Hid (∀ x, p1 = some x → 0 < n1 → x.block ≠ g) := fun x e h0 => by
    have h2 := hO1.ltC' x e h0
    omega
  have hr1 := hm.r1
  have HN1 : Hid (n1 ≤ 549755813888) := by show _ ≤ _; have := hO1.len; omega
  have HRoom : Hid (m.used + n1 ≤ m.room) := by show _ ≤ _; have := hO1.len; omega
  have HTk : Hid ((sealL xs).take n1 = sealL xs) := by show _ = _; rw [List.take_of_length_le (by have := hO1.len; omega)]
  have hTw := hT.below hb1
  have hS0w : ∀ W, Bl w1 W → (W.cell? ⟨gt, 0, none⟩ = some (.pointer (some ⟨g, 0, none⟩)) ∧ W.cell? ⟨gt, 1, none⟩ = some (.int .i64 t.file)) := fun W hW => ⟨cell_below (Bl.out' hW) (hTw.blk.cell 0), cell_below (Bl.out' hW) (hTw.blk.cell 1)⟩
  have hS0 : Bl w1 w1.drew := (Below.refl _ _).drew
  clear hTw hr1
  go_wp2_with fail
  refine wp_region_det [0, 1, 2, 3, 4, 5, 6, 7, 8] (fun W => W.cell? ⟨gt, 0, none⟩ = some (.pointer (some ⟨g, 0, none⟩)) ∧ W.cell? ⟨gt, 1, none⟩ = some (.int .i64 t.file)) (Bl w1) (by kernel_rfl) hS0 ?_
  refine wpDet_take ?vA0 (Bl.stays w1) hS0w (i := 0) rfl (by kernel_rfl) (by kernel_rfl) (by kernel_rfl) (by kernel_rfl) (fun _ _ _ h => h) (Gives.value (by rfl) ?yA0) ?rA0
  case yA0 => (intro w' hSw; (try dsimp only at hSw); go_simp; try with_reducible rfl)
  (try simp only [Act.put, List.getElem_toArray, List.getElem_cons_zero, List.getElem_cons_succ, List.setIfInBounds_toArray, List.set_cons_zero, List.set_cons_succ])
  refine wpDet_take ?vA1 (Bl.stays w1) hS0w (i := 1) rfl (by kernel_rfl) (by kernel_rfl) (by kernel_rfl) (by kernel_rfl) (fun _ _ _ h => h) (Gives.value (by rfl) ?yA1) ?rA1
  case yA1 => (intro w' hSw; (try dsimp only at hSw); go_simp; try with_reducible rfl)
  (try simp only [Act.put, List.getElem_toArray, List.getElem_cons_zero, List.getElem_cons_succ, List.setIfInBounds_toArray, List.set_cons_zero, List.set_cons_succ])
  refine wpDet_take ?vA2 (Bl.stays w1) hS0w (i := 2) rfl (by kernel_rfl) (by kernel_rfl) (by kernel_rfl) (by kernel_rfl) (fun _ _ _ h => h) (Gives.value (by rfl) ?yA2) ?rA2
  case yA2 => (intro w' hSw; (try dsimp only at hSw); go_simp; try with_reducible rfl)
  (try simp only [Act.put, List.getElem_toArray, List.getElem_cons_zero, List.getElem_cons_succ, List.setIfInBounds_toArray, List.set_cons_zero, List.set_cons_succ])
  refine wpDet_take ?vA3 (Bl.stays w1) hS0w (i := 3) rfl (by kernel_rfl) (by kernel_rfl) (by kernel_rfl) (by kernel_rfl) (fun _ _ _ h => h) (Gives.value (by rfl) ?yA3) ?rA3
  case yA3 => (intro w' hSw; have hz0 := hSw.1; (try dsimp only at hSw); go_simp; try with_reducible rfl)
  (try simp only [Act.put, List.getElem_toArray, List.getElem_cons_zero, List.getElem_cons_succ, List.setIfInBounds_toArray, List.set_cons_zero, List.set_cons_succ])
  refine wpDet_take ?vA4 (Bl.stays w1) hS0w (i := 4) rfl (by kernel_rfl) (by kernel_rfl) (by kernel_rfl) (by kernel_rfl) (fun _ _ _ h => h) (Gives.value (by rfl) ?yA4) ?rA4
  case yA4 => (intro w' hSw; (try dsimp only at hSw); go_simp; try with_reducible rfl)
  (try simp only [Act.put, List.getElem_toArray, List.getElem_cons_zero, List.getElem_cons_succ, List.setIfInBounds_toArray, List.set_cons_zero, List.set_cons_succ])
  refine wpDet_take ?vA5 (Bl.stays w1) hS0w (i := 5) rfl (by kernel_rfl) (by kernel_rfl) (by kernel_rfl) (by kernel_rfl) (fun _ _ _ h => h) (Gives.value (by rfl) ?yA5) ?rA5
  case yA5 => (intro w' hSw; (try dsimp only at hSw); go_simp; try with_reducible rfl)
  (try simp only [Act.put, List.getElem_toArray, List.getElem_cons_zero, List.getElem_cons_succ, List.setIfInBounds_toArray, List.set_cons_zero, List.set_cons_succ])
  refine wpDet_take ?vA6 (Bl.stays w1) hS0w (i := 6) rfl (by kernel_rfl) (by kernel_rfl) (by kernel_rfl) (by kernel_rfl) (fun _ _ _ h => h) (Gives.value (by rfl) ?yA6) ?rA6
  case yA6 => (intro w' hSw; (try dsimp only at hSw); go_simp; try with_reducible rfl)
  (try simp only [Act.put, List.getElem_toArray, List.getElem_cons_zero, List.getElem_cons_succ, List.setIfInBounds_toArray, List.set_cons_zero, List.set_cons_succ])
  refine wpDet_take ?vA7 (Bl.stays w1) hS0w (i := 7) rfl (by kernel_rfl) (by kernel_rfl) (by kernel_rfl) (by kernel_rfl) (fun _ _ _ h => h) (Gives.value (by rfl) ?yA7) ?rA7
  case yA7 => (intro w' hSw; have hz0 := hSw.2; (try dsimp only at hSw); go_simp; try with_reducible rfl)
  (try simp only [Act.put, List.getElem_toArray, List.getElem_cons_zero, List.getElem_cons_succ, List.setIfInBounds_toArray, List.set_cons_zero, List.set_cons_succ])
  refine wpDet_take ?vA8 (Bl.stays w1) hS0w (i := 8) rfl (by kernel_rfl) (by kernel_rfl) (by kernel_rfl) (by kernel_rfl) (fun _ _ _ h => h) (Gives.value (by rfl) ?yA8) ?rA8
  case yA8 => (intro w' hSw; (try dsimp only at hSw); go_simp; try with_reducible rfl)
  (try simp only [Act.put, List.getElem_toArray, List.getElem_cons_zero, List.getElem_cons_succ, List.setIfInBounds_toArray, List.set_cons_zero, List.set_cons_succ])
  refine wpDet_ready (rs := [9]) (by kernel_rfl) (by simp) (AllDet.cons rfl (fun V hV K hK => ?_) AllDet.nil)
  rw [if_pos (by rfl)]
  have hbV := Bl.out' hV
  have hbV0 := hb1.trans (hbV.mono hb1.size)
  have hA := Append_gen V B own a g d m (h.below hbV0) hm.r0 hm.up hm.few (Nat.le_trans hB hbV0.size) t.file hi8 p1 n1 c1 _ (hO1.below hbV).rd (fun x e h0 => HRg.out x e h0) HN1.out HRoom.out hm.r1
  rw [act0 hm.left, gone0 hm.left, HTk.out] at hA
  refine wp_enterX 11 #[.pointer (some ⟨g, 0, none⟩), .int .i64 t.file, .slice p1 n1 c1] (by first | (go_simp; done) | (go_simp; rfl)) (fun v V' => v = .int .i64 0 ∧ ∃ own1 d1, DA V' B own1 a g d1 { m with f := upP m.f t.file { m.f t.file with told := (m.f t.file).told ++ sealL xs } } ∧ (∀ k, k < V.heap.size → own1 k = own k) ∧ Ch (fun k => k = g ∨ own k = mark a t.file) V V') (hA.mono fun e V' ⟨h1, h2⟩ => ⟨_, h1, rfl, h2⟩) ?_
  rintro v V1 ⟨rfl, own1, d1, h1, ho1, hc1⟩
  have hT1 := TB.ch ha hi8 (hT.below hbV0) hc1 ho1
  have hTO1 := ((hTO.below hbV0).ch hc1 (fun k hk _ => hk.not ha hi8) (fun k hk e => (ho1 k hk).trans e))
  have hpa1 := (hpa.below hbV0).ch0 hc1 (fun x e h0 => by intro e2; exact e2.elim (hda x e h0).2 (hda x e h0).1)
  have hcc := (Ch.of_below hbV0 (fun k => k = g ∨ own k = mark a t.file)).trans hc1
  have hoo : ∀ k, k < w0.heap.size → own1 k = own k := fun k hk => ho1 k (Nat.lt_of_lt_of_le hk hbV0.size)
  have c01 := hT1.blk.cell 0
  have c11 := hT1.blk.cell 1
  have hS1w : ∀ W, Bl V1 W → (W.cell? ⟨gt, 0, none⟩ = some (.pointer (some ⟨g, 0, none⟩)) ∧ W.cell? ⟨gt, 1, none⟩ = some (.int .i64 t.file)) := fun W hW => ⟨cell_below (Bl.out' hW) c01, cell_below (Bl.out' hW) c11⟩
  refine hK.out (Bl V1) _ _ (Bl.stays V1) (fun _ W h => hS1w W h) (Below.refl _ _) ?_
  clear hK K hV hA ho1 hc1 hbV hbV0 c01 c11
  (try simp only [Act.put, List.getElem_toArray, List.getElem_cons_zero, List.getElem_cons_succ, List.setIfInBounds_toArray, List.set_cons_zero, List.set_cons_succ])
  refine wpDet_ready (rs := [10]) (by kernel_rfl) (by simp) (AllDet.cons rfl (fun V hV K hK => ?_) AllDet.nil)
  rw [if_pos (by rfl)]
  refine wp_value (.int .i64 0) V (by first | (go_simp; done) | (go_simp; rfl)) ?_
  refine hK.out (Bl V1) _ _ (Bl.stays V1) (fun _ W h => hS1w W h) hV ?_
  clear hK K hV
  (try simp only [Act.put, List.getElem_toArray, List.getElem_cons_zero, List.getElem_cons_succ, List.setIfInBounds_toArray, List.set_cons_zero, List.set_cons_succ])
  refine wpDet_done (by kernel_rfl) (fun W2 hW2 => ?_) _
  have hbW := Bl.out' hW2
  have hT2 := hT1.below hbW
  have hD2 := h1.below hbW
  have hTO2 := hTO1.below hbW
  have hpa2 := hpa1.below hbW
  have hc2 := hcc.trans (Ch.of_below hbW _)
  have HOv : Hid (OwG 22 W2 Bv pr n cr vs) := by show OwG _ _ _ _ _ _ _; rw [HNn.out]; exact hTO2.rcs
  have HBv : Hid (Bv ≤ W2.heap.size) := Nat.le_trans hBv hc2.size
  have c5 := hT2.blk.cell 5
  have hS2w : ∀ W, Bl W2 W → W.cell? ⟨gt, 5, none⟩ = some (.slice pr n cr) := fun W hW => by rw [HNn.out]; exact cell_below (Bl.out' hW) c5
  have hS2 : Bl W2 W2.drew := (Below.refl _ _).drew
  clear hS1w hW2 hbW h1 hT1 hTO1 hpa1 hcc hS0w hS0 c5
  go_wp2_with fail
  refine wp_region_det [0, 1, 2, 3, 4, 5, 6] (fun W => W.cell? ⟨gt, 5, none⟩ = some (.slice pr n cr)) (Bl W2) (by kernel_rfl) hS2 ?_
  refine wpDet_take ?vB0 (Bl.stays W2) hS2w (i := 0) rfl (by kernel_rfl) (by kernel_rfl) (by kernel_rfl) (by kernel_rfl) (fun _ _ _ h => h) (Gives.value (by rfl) ?yB0) ?rB0
  case yB0 => (intro w' hSw; (try dsimp only at hSw); go_simp; try with_reducible rfl)
  (try simp only [Act.put, List.getElem_toArray, List.getElem_cons_zero, List.getElem_cons_succ, List.setIfInBounds_toArray, List.set_cons_zero, List.set_cons_succ])
  refine wpDet_take ?vB1 (Bl.stays W2) hS2w (i := 1) rfl (by kernel_rfl) (by kernel_rfl) (by kernel_rfl) (by kernel_rfl) (fun _ _ _ h => h) (Gives.value (by rfl) ?yB1) ?rB1
  case yB1 => (intro w' hSw; (try dsimp only at hSw); go_simp; try with_reducible rfl)
  (try simp only [Act.put, List.getElem_toArray, List.getElem_cons_zero, List.getElem_cons_succ, List.setIfInBounds_toArray, List.set_cons_zero, List.set_cons_succ])
  refine wpDet_take ?vB2 (Bl.stays W2) hS2w (i := 2) rfl (by kernel_rfl) (by kernel_rfl) (by kernel_rfl) (by kernel_rfl) (fun _ _ _ h => h) (Gives.value (by rfl) ?yB2) ?rB2
  case yB2 => (intro w' hSw; (try dsimp only at hSw); go_simp; try with_reducible rfl)
  (try simp only [Act.put, List.getElem_toArray, List.getElem_cons_zero, List.getElem_cons_succ, List.setIfInBounds_toArray, List.set_cons_zero, List.set_cons_succ])
  refine wpDet_take ?vB3 (Bl.stays W2) hS2w (i := 3) rfl (by kernel_rfl) (by kernel_rfl) (by kernel_rfl) (by kernel_rfl) (fun _ _ _ h => h) (Gives.value (by rfl) ?yB3) ?rB3
  case yB3 => (intro w' hSw; (try dsimp only at hSw); go_simp; try with_reducible rfl)
  (try simp only [Act.put, List.getElem_toArray, List.getElem_cons_zero, List.getElem_cons_succ, List.setIfInBounds_toArray, List.set_cons_zero, List.set_cons_succ])
  refine wpDet_take ?vB4 (Bl.stays W2) hS2w (i := 4) rfl (by kernel_rfl) (by kernel_rfl) (by kernel_rfl) (by kernel_rfl) (fun _ _ _ h => h) (Gives.value (by rfl) ?yB4) ?rB4
  case yB4 => (intro w' hSw; (try dsimp only at hSw); go_simp; try with_reducible rfl)
  (try simp only [Act.put, List.getElem_toArray, List.getElem_cons_zero, List.getElem_cons_succ, List.setIfInBounds_toArray, List.set_cons_zero, List.set_cons_succ])
  refine wpDet_take ?vB5 (Bl.stays W2) hS2w (i := 5) rfl (by kernel_rfl) (by kernel_rfl) (by kernel_rfl) (by kernel_rfl) (fun _ _ _ h => h) (Gives.value (by rfl) ?yB5) ?rB5
  case yB5 => (intro w' hSw; have hz0 := hSw; (try dsimp only at hSw); go_simp; try with_reducible rfl)
  (try simp only [Act.put, List.getElem_toArray, List.getElem_cons_zero, List.getElem_cons_succ, List.setIfInBounds_toArray, List.set_cons_zero, List.set_cons_succ])
  refine wpDet_take ?vB6 (Bl.stays W2) hS2w (i := 6) rfl (by kernel_rfl) (by kernel_rfl) (by kernel_rfl) (by kernel_rfl) (fun _ _ _ h => h) (Gives.value (by rfl) ?yB6) ?rB6
  case yB6 => (intro w' hSw; (try dsimp only at hSw); go_simp; try with_reducible rfl)
  (try simp only [Act.put, List.getElem_toArray, List.getElem_cons_zero, List.getElem_cons_succ, List.setIfInBounds_toArray, List.set_cons_zero, List.set_cons_succ])
  refine wpDet_ready (rs := [7]) (by kernel_rfl) (by simp) (AllDet.cons rfl (fun V hV K hK => ?_) AllDet.nil)
  rw [if_pos (by rfl)]
  have hC := bcloneO pa na ca xs V (hpa2.below (Bl.out' hV)) HNA.out
  refine wp_enterX 61 #[.slice pa na ca] (by first | (go_simp; done) | (go_simp; rfl)) (fun v V' => ∃ p' c', v = .slice p' na c' ∧ Ow .u8 5 V' V.heap.size p' na c' xs ∧ Below V.heap.size V V') (hC.mono fun e V' ⟨p', c', h1, h2, h3⟩ => ⟨_, h1, p', c', rfl, h2, h3⟩) ?_
  rintro v V' ⟨p7, c7, rfl, ho7, hb7⟩
  refine hK.out (fun W => Bl W2 W ∧ Ow .u8 5 W W2.heap.size p7 na c7 xs) _ _ (fun W W' h hb => ⟨Bl.stays W2 W W' h.1 hb, h.2.below hb⟩) (fun _ W h => hS2w W h.1) ⟨Bl.stays W2 V V' hV hb7, ho7.lower (Bl.out' hV).size⟩ ?_
  clear hK K hC hV ho7 hb7
  (try simp only [Act.put, List.getElem_toArray, List.getElem_cons_zero, List.getElem_cons_succ, List.setIfInBounds_toArray, List.set_cons_zero, List.set_cons_succ])
  refine wpDet_ready (rs := [8]) (by kernel_rfl) (by simp) (AllDet.cons rfl (fun V hV K hK => ?_) AllDet.nil)
  rw [if_pos (by rfl)]
  refine wp_value (.slice (some ⟨V.heap.size, 0, none⟩) 1 1) (V.alloc (.cells #[.slice p7 na c7] 22)) (by first | (go_simp; done) | (go_simp; rfl)) ?_
  have hba := below_alloc V (.cells #[.slice p7 na c7] 22)
  have hA8 := At.new 22 V #[.slice p7 na c7]
  obtain ⟨gs, hgs⟩ : ∃ z, z = V.heap.size := ⟨_, rfl⟩
  rw [← hgs] at hA8 ⊢
  refine hK.out (fun W => Bl W2 W ∧ Ow .u8 5 W W2.heap.size p7 na c7 xs ∧ W.cell? ⟨gs, 0, none⟩ = some (.slice p7 na c7)) _ _ (fun W W' h hb => ⟨Bl.stays W2 W W' h.1 hb, h.2.1.below hb, cell_below hb h.2.2⟩) (fun _ W h => hS2w W h.1) ⟨Bl.stays W2 V _ hV.1 hba, hV.2.below hba, hA8.cell 0⟩ ?_
  clear hK K hV hba hA8 hgs
  (try simp only [Act.put, List.getElem_toArray, List.getElem_cons_zero, List.getElem_cons_succ, List.setIfInBounds_toArray, List.set_cons_zero, List.set_cons_succ])
  refine wpDet_ready (rs := [9]) (by kernel_rfl) (by simp) (AllDet.cons rfl (fun V hV K hK => ?_) AllDet.nil)
  rw [if_pos (by rfl)]
  have hbV := Bl.out' hV.1
  obtain ⟨p8, c8, V8, hrun, hO8, hg8, hk8⟩ := run_appG (P := Try.prog) (d := 1) V 31 31 22 i1 (.slice none 0 0) 24 Try.underlying31 hi1 hy0 hy1 hy2 rfl (HOv.out.below hbV) hV.2.2 rfl HB1.out HB2.out (Nat.le_trans HBv.out hbV.size)
  refine wp_app _ _ 31 rfl (.slice pr n cr) (.slice (some ⟨gs, 0, none⟩) 1 1) rfl rfl (.slice p8 (n + 1) c8) V8 hrun ?_
  have hP := put_mid ha HBv.out hD2 hTO2 hT2.blk hbV HNn.out hV.2.1 hO8 hg8 hk8
  have hA88 := hP.2.2.1
  refine hK.out (Bl V8) _ _ (Bl.stays V8) (fun _ W h => cell_below (Bl.out' h) (hA88.cell 5)) (Below.refl _ _) ?_
  clear hK K hV hrun hg8 hk8 hO8 hbV
  (try simp only [Act.put, List.getElem_toArray, List.getElem_cons_zero, List.getElem_cons_succ, List.setIfInBounds_toArray, List.set_cons_zero, List.set_cons_succ])
  refine wpDet_ready (rs := [10]) (by kernel_rfl) (by simp) (AllDet.cons rfl (fun V hV K hK => ?_) AllDet.nil)
  rw [if_pos (by rfl)]
  refine wp_value (.pointer (some ⟨gt, 0, none⟩)) V (by first | (go_simp; done) | (go_simp; rfl)) ?_
  refine hK.out (Bl V8) _ _ (Bl.stays V8) (no_lean (by kernel_rfl)) hV ?_
  clear hK K hV
  (try simp only [Act.put, List.getElem_toArray, List.getElem_cons_zero, List.getElem_cons_succ, List.setIfInBounds_toArray, List.set_cons_zero, List.set_cons_succ])
  refine wpDet_ready (rs := [11]) (by kernel_rfl) (by simp) (AllDet.cons rfl (fun V hV K hK => ?_) AllDet.nil)
  rw [if_pos (by rfl)]
  refine wp_value (.pointer (some ⟨gt, 3, none⟩)) V (by first | (go_simp; done) | (go_simp; rfl)) ?_
  refine hK.out (Bl V8) _ _ (Bl.stays V8) (no_lean (by kernel_rfl)) hV ?_
  clear hK K hV
  (try simp only [Act.put, List.getElem_toArray, List.getElem_cons_zero, List.getElem_cons_succ, List.setIfInBounds_toArray, List.set_cons_zero, List.set_cons_succ])
  refine wpDet_ready (rs := [12]) (by kernel_rfl) (by simp) (AllDet.cons rfl (fun V hV K hK => ?_) AllDet.nil)
  rw [if_pos (by rfl)]
  refine wp_value (.pointer (some ⟨gt, 5, none⟩)) V (by first | (go_simp; done) | (go_simp; rfl)) ?_
  refine hK.out (Bl V8) _ _ (Bl.stays V8) (no_lean (by kernel_rfl)) hV ?_
  clear hK K hV
  (try simp only [Act.put, List.getElem_toArray, List.getElem_cons_zero, List.getElem_cons_succ, List.setIfInBounds_toArray, List.set_cons_zero, List.set_cons_succ])
  refine wpDet_ready (rs := [13]) (by kernel_rfl) (by simp) (AllDet.cons rfl (fun V hV K hK => ?_) AllDet.nil)
  rw [if_pos (by rfl)]
  have hAV := hA88.below (Bl.out' hV)
  refine wp_store_slice _ _ _ rfl gt 5 p8 (n + 1) c8 _ rfl rfl sizeSlV (hAV.cell 5) (hAV.free 5) ?_
  have hE : Ex gt V8 (V.setCell ⟨gt, 5, none⟩ (.slice p8 (n + 1) c8)) := (Ex.of_below (Bl.out' hV)).trans ((Ex.refl gt V).setCell 5 _)
  have hAs := heap_setCell_same V gt 5 _ _ (.slice p8 (n + 1) c8) hAV
  refine hK.out (fun W => Ex gt V8 W ∧ At 74 W gt #[.pointer (some ⟨g, 0, none⟩), .int .i64 t.file, .int .i64 t.kept, .int .i64 t.r.gen, .slice pb nb cb, .slice p8 (n + 1) c8]) _ _ (fun W W' h hb => ⟨h.1.trans (Ex.of_below hb), h.2.below hb⟩) (no_lean (by kernel_rfl)) ⟨hE, hAs⟩ ?_
  clear hK K hV hAV hE hAs
  (try simp only [Act.put, List.getElem_toArray, List.getElem_cons_zero, List.getElem_cons_succ, List.setIfInBounds_toArray, List.set_cons_zero, List.set_cons_succ])
  refine wpDet_done (by kernel_rfl) (fun W9 hW9 => ?_) _
  obtain ⟨hE9, hA9⟩ := hW9
  obtain ⟨hD8, hTO8, _, hc8⟩ := hP
  have hot : farO own1 W2.heap.size V8.heap.size gt = farM := (farO_low hT2.blk.lt).trans hT2.fg.1
  have hD9 := hD8.exF ha hE9 hot hT.fg.2
  have hTO9 := hTO8.ch (Ch.of_ex hE9) (fun k _ hk => hk) (fun _ _ e => e)
  have hT9 := hTO9.tb (by
    show At 74 W9 gt #[.pointer (some ⟨g, 0, none⟩), .int .i64 t.file, .int .i64 t.kept, .int .i64 t.r.gen, .slice pb nb cb, .slice p8 (t.r.recs ++ [xs]).length c8]
    rw [List.length_append, ← HNn.out]
    exact hA9) ⟨hot, hT.fg.2⟩
  have hcF : Ch (fun k => k = g ∨ k = gt ∨ own k = mark a t.file ∨ ∃ x, pr = some x ∧ 0 < cr ∧ k = x.block) w0 W9 := ((hc2.mono (T := fun k => k = g ∨ k = gt ∨ own k = mark a t.file ∨ ∃ x, pr = some x ∧ 0 < cr ∧ k = x.block) (fun k _ e => e.elim Or.inl fun e => Or.inr (Or.inr (Or.inl e)))).then hc8 (fun k _ e => Or.inr (Or.inr (Or.inr e)))).then (Ch.of_ex hE9) (fun k _ e => Or.inr (Or.inl e))
  have hoF : ∀ k, k < w0.heap.size → farO own1 W2.heap.size V8.heap.size k = own k := fun k hk => (farO_low (Nat.lt_of_lt_of_le hk hc2.size)).trans (hoo k hk)
  clear hS2w hS2 hi1 hy0 hy1 hy2 HOv
  go_wp2_with fail
  go_ret
  exact ⟨rfl, _, d1, p8, c8, p7, c7, hD9, hT9, hTO9, hoF, hcF⟩

end Go.Proofs.Ytpjhadaiodnnaaa.M

namespace Go.Proofs.Ytpjhadaiodnnaaa.M
open Go.ChangeShapes Go.WideShapes Go.ChangeAt Go.RowKit
set_option linter.unusedSimpArgs false

set_option maxRecDepth 20000 in
set_option maxHeartbeats 2000000 in
theorem TAt_ok (w : World) (gt g : Nat) (b o n c i : Nat) (hi : i < n) (h0 : w.cell? ⟨gt, 0, none⟩ = some (.pointer (some ⟨g, 0, none⟩))) (h5 : w.cell? ⟨gt, 5, none⟩ = some (.slice (some ⟨b, o, none⟩) n c)) (q : Option Addr) (m d : Nat) (hq : w.cell? ⟨b, o + i, none⟩ = some (.slice q m d)) (xs : List Int) (hr : Rd .u8 w q m d xs) (hm : m ≤ 1099511627776) :
    Calls Try.prog 33 #[.pointer (some ⟨gt, 0, none⟩), .int .i64 i] w fun e w' => (∃ p' c', e = .returned (.tuple #[.slice p' m c', .bool true]) ∧ Ow .u8 5 w' w.heap.size p' m c' xs) ∧ Below w.heap.size w w' := by
  have hL := TLen_ok w gt g _ n c h0 h5
  have k1 : decide ((i : Int) < 0) = false := decide_eq_false (by omega)
  have k2 : decide ((n : Int) ≤ (i : Int)) = false := decide_eq_false (by omega)
  go_enter Try.func33, Try.ntmps33
  go_wp2_with fail
  refine hL.mono ?_
  rintro e w1 ⟨rfl, hb1⟩
  clear hL
  have h51 := cell_below hb1 h5
  have hq1 := cell_below hb1 hq
  have hC := bcloneO q m d xs w1 (hr.below hb1) hm
  clear h5 hq h0
  go_wp2_with fail
  refine hC.mono ?_
  rintro e w2 ⟨p', c', rfl, hO, hb2⟩
  clear hC
  go_wp2_with fail
  go_ret2
  exact ⟨⟨p', c', rfl, hO.lower hb1.size⟩, hb1.trans (hb2.mono hb1.size)⟩

end Go.Proofs.Ytpjhadaiodnnaaa.M

namespace Go.Proofs.Ytpjhadaiodnnaaa.M
open Go.ChangeShapes Go.WideShapes Go.ChangeAt Go.RowKit
set_option linter.unusedSimpArgs false

/-- A tape that no call made: nil, or a plain one. -/
def TNo (w : World) (v : Option Addr) : Prop := v = none ∨ ∃ gt, v = some ⟨gt, 0, none⟩ ∧ w.cell? ⟨gt, 0, none⟩ = some (.pointer none)

theorem TNo.below {w w' : World} {v : Option Addr} (h : TNo w v) (hb : Below w.heap.size w w') : TNo w' v := h.imp id fun ⟨gt, e, hc⟩ => ⟨gt, e, cell_below hb hc⟩

set_option maxRecDepth 20000 in
theorem tmade_no (w : World) (v : Option Addr) (h : TNo w v) : Calls Try.prog 53 #[.pointer v] w fun e w' => e = .returned (.bool false) ∧ w' = w := by
  rcases h with rfl | ⟨gt, rfl, h0⟩
  · go_enter Try.func53, Try.ntmps53
    go_wp2_with fail
    go_ret
    exact ⟨rfl, rfl⟩
  · go_enter Try.func53, Try.ntmps53
    go_wp2_with fail
    go_ret
    exact ⟨rfl, rfl⟩

set_option maxRecDepth 20000 in
theorem TLen_no (w : World) (v : Option Addr) (h : TNo w v) : Calls Try.prog 34 #[.pointer v] w fun e w' => e = .returned (.int .i64 0) ∧ w' = w := by
  have hM := tmade_no w v h
  go_enter Try.func34, Try.ntmps34
  go_wp2_with fail
  refine hM.mono ?_
  rintro e w0 ⟨rfl, hw0⟩
  subst hw0
  clear hM
  go_wp2_with fail
  go_ret
  exact ⟨rfl, rfl⟩

set_option maxRecDepth 20000 in
theorem TKept_no (w : World) (v : Option Addr) (h : TNo w v) : Calls Try.prog 35 #[.pointer v] w fun e w' => e = .returned (.int .i64 0) ∧ w' = w := by
  have hM := tmade_no w v h
  go_enter Try.func35, Try.ntmps35
  go_wp2_with fail
  refine hM.mono ?_
  rintro e w0 ⟨rfl, hw0⟩
  subst hw0
  clear hM
  go_wp2_with fail
  go_ret
  exact ⟨rfl, rfl⟩

set_option maxRecDepth 20000 in
theorem TBase_no (w : World) (v : Option Addr) (h : TNo w v) : Calls Try.prog 30 #[.pointer v] w fun e w' => e = .returned (.slice none 0 0) ∧ w' = w := by
  have hM := tmade_no w v h
  go_enter Try.func30, Try.ntmps30
  go_wp2_with fail
  refine hM.mono ?_
  rintro e w0 ⟨rfl, hw0⟩
  subst hw0
  clear hM
  go_wp2_with fail
  go_ret
  exact ⟨rfl, rfl⟩

set_option maxRecDepth 20000 in
theorem TSync_no (w : World) (v : Option Addr) (h : TNo w v) : Calls Try.prog 20 #[.pointer v] w fun e w' => e = .returned (.int .i64 6) ∧ w' = w := by
  have hM := tmade_no w v h
  go_enter Try.func20, Try.ntmps20
  go_wp2_with fail
  refine hM.mono ?_
  rintro e w0 ⟨rfl, hw0⟩
  subst hw0
  clear hM
  go_wp2_with fail
  go_ret
  exact ⟨rfl, rfl⟩

set_option maxRecDepth 20000 in
theorem TPut_no (w : World) (v : Option Addr) (h : TNo w v) (p : Option Addr) (n c : Nat) : Calls Try.prog 23 #[.pointer v, .slice p n c] w fun e w' => e = .returned (.int .i64 6) ∧ w' = w := by
  have hM := tmade_no w v h
  go_enter Try.func23, Try.ntmps23
  go_wp2_with fail
  refine hM.mono ?_
  rintro e w0 ⟨rfl, hw0⟩
  subst hw0
  clear hM
  go_wp2_with fail
  go_ret
  exact ⟨rfl, rfl⟩

set_option maxRecDepth 20000 in
theorem TSave_no (w : World) (v : Option Addr) (h : TNo w v) (p : Option Addr) (n c : Nat) (q : Option Addr) (n' c' : Nat) : Calls Try.prog 21 #[.pointer v, .slice p n c, .slice q n' c'] w fun e w' => e = .returned (.int .i64 6) ∧ w' = w := by
  have hM := tmade_no w v h
  go_enter Try.func21, Try.ntmps21
  go_wp2_with fail
  refine hM.mono ?_
  rintro e w0 ⟨rfl, hw0⟩
  subst hw0
  clear hM
  go_wp2_with fail
  go_ret
  exact ⟨rfl, rfl⟩

set_option maxRecDepth 20000 in
theorem TAt_no (w : World) (v : Option Addr) (h : TNo w v) (i : Int) : Calls Try.prog 33 #[.pointer v, .int .i64 i] w fun e w' => e = .returned (.tuple #[.slice none 0 0, .bool false]) ∧ w' = w := by
  by_cases hi : i < 0
  · have k1 : decide (i < 0) = true := decide_eq_true hi
    go_enter Try.func33, Try.ntmps33
    go_wp2_with fail
    go_ret2
    exact ⟨rfl, rfl⟩
  · have k1 : decide (i < 0) = false := decide_eq_false hi
    have k2 : decide (0 ≤ i) = true := decide_eq_true (by omega)
    have hL := TLen_no w v h
    go_enter Try.func33, Try.ntmps33
    go_wp2_with fail
    refine hL.mono ?_
    rintro e w0 ⟨rfl, hw0⟩
    subst hw0
    clear hL
    go_wp2_with fail
    go_ret2
    exact ⟨rfl, rfl⟩

end Go.Proofs.Ytpjhadaiodnnaaa.M

namespace Go.Proofs.Ytpjhadaiodnnaaa.M
open Go.ChangeShapes Go.WideShapes Go.ChangeAt Go.RowKit
set_option linter.unusedSimpArgs false

/-- A disk that no call made: none, or one without room. -/
def Nob (v : Value) (w : World) : Prop := v = .pointer none ∨ ∃ g, v = .pointer (some ⟨g, 0, none⟩) ∧ w.cell? ⟨g, 0, none⟩ = some (.int .i64 0)

theorem Nob.below {v : Value} {w w' : World} (h : Nob v w) (hb : Below w.heap.size w w') : Nob v w' := by
  rcases h with h | ⟨g, h, hc⟩
  · exact Or.inl h
  · exact Or.inr ⟨g, h, by rw [hb.cell (p := ⟨g, 0, none⟩) (World.block_lt_of_cell? _ _ hc)]; exact hc⟩

theorem made_nob (v : Value) (w : World) (h : Nob v w) : Calls Try.prog 63 #[v] w fun e w' => e = .returned (.bool false) ∧ w' = w := by
  rcases h with rfl | ⟨g, rfl, hc⟩
  · exact made_nil w
  · exact made_zero w g hc

set_option maxRecDepth 20000 in
theorem ready_nob (v : Value) (w : World) (h : Nob v w) : Calls Try.prog 51 #[v] w fun e w' => e = .returned (.int .i64 6) ∧ w' = w := by
  have hM := made_nob v w h
  clear h
  go_enter Try.func51, Try.ntmps51
  go_wp2_with fail
  refine hM.mono ?_
  rintro e w1 ⟨rfl, rfl⟩
  go_wp2_with fail
  go_ret
  exact ⟨rfl, rfl⟩

set_option maxRecDepth 20000 in
theorem file_nob (v : Value) (w : World) (h : Nob v w) (i : Int) : Calls Try.prog 37 #[v, .int .i64 i] w fun e w' => e = .returned (.tuple #[.pointer none, .int .i64 6]) ∧ w' = w := by
  have hR := ready_nob v w h
  clear h
  go_enter Try.func37, Try.ntmps37
  go_wp2_with fail
  refine hR.mono ?_
  rintro e w1 ⟨rfl, rfl⟩
  go_wp2_with fail
  go_ret2
  exact ⟨rfl, rfl⟩

set_option maxRecDepth 20000 in
theorem Read_nob (v : Value) (w : World) (h : Nob v w) (i : Int) : Calls Try.prog 46 #[v, .int .i64 i] w fun e w' => e = .returned (.tuple #[.slice none 0 0, .int .i64 6]) ∧ w' = w := by
  have hF := file_nob v w h i
  clear h
  go_enter Try.func46, Try.ntmps46
  go_wp2_with fail
  refine hF.mono ?_
  rintro e w1 ⟨rfl, rfl⟩
  go_wp2_with fail
  go_ret2
  exact ⟨rfl, rfl⟩

set_option maxRecDepth 20000 in
set_option maxHeartbeats 2000000 in
theorem TOpen_no (v : Option Addr) (w : World) (h : Nob (.pointer v) w) : Calls Try.prog 13 #[.pointer v] w fun e w' => e = .returned (.tuple #[.pointer none, .int .i64 6]) ∧ Below w.heap.size w w' := by
  have hba := below_alloc w (.cells #[.pointer v, .int .i64 1, .int .i64 0, .int .i64 0, .slice none 0 0, .slice none 0 0] 74)
  have hR := Read_nob (.pointer v) _ (h.below hba) 0
  clear h
  go_enter Try.func13, Try.ntmps13
  go_wp2_with fail
  go_loopw [15] (fun ix wr => ix = .int .i64 0 ∧ wr = w.alloc (.cells #[.pointer v, .int .i64 1, .int .i64 0, .int .i64 0, .slice none 0 0, .slice none 0 0] 74)) (fun _ _ => 0)
  case atStart => exact ⟨rfl, rfl⟩
  case round =>
    obtain ⟨rfl, rfl⟩ := hrel
    go_wp2_with fail
    refine hR.mono ?_
    rintro e w1 ⟨rfl, hw1⟩
    subst hw1
    clear hR
    go_wp2_with fail
    go_ret2
    exact ⟨rfl, hba⟩

end Go.Proofs.Ytpjhadaiodnnaaa.M

namespace Go.Proofs.Ytpjhadaiodnnaaa.M
open Go.ChangeShapes Go.WideShapes Go.ChangeAt Go.RowKit
set_option linter.unusedSimpArgs false

/-- Which file counts, its reel, and whether it is whole: of the first k files, by what lies in them. -/
def scT (f : Nat → List Int) : Nat → Nat × PR × Bool
  | 0 => (1, .z0, false)
  | k + 1 => if (scT f k).2.1.gen < (ldR (f k)).1.gen then (k, (ldR (f k)).1, (ldR (f k)).2) else scT f k

/-- A tape that is being opened, in block gt, all its memory made since w. -/
structure OI (w wr : World) (g gt : Nat) (file kept : Nat) (r : PR) (pb : Option Addr) (nb cb : Nat) (pr : Option Addr) (cr : Nat) (vs : List Value) : Prop where
  hb : Below w.heap.size w wr
  blk : At 74 wr gt #[.pointer (some ⟨g, 0, none⟩), .int .i64 file, .int .i64 kept, .int .i64 r.gen, .slice pb nb cb, .slice pr r.recs.length cr]
  bas : Ow .u8 5 wr (w.heap.size + 1) pb nb cb r.base
  rcs : OwG 22 wr (w.heap.size + 1) pr r.recs.length cr vs
  sls : Slo 5 wr (w.heap.size + 1) vs r.recs
  ge : gt = w.heap.size

theorem OI.below {w wr wr' : World} {g gt file kept : Nat} {r : PR} {pb : Option Addr} {nb cb : Nat} {pr : Option Addr} {cr : Nat} {vs : List Value} (h : OI w wr g gt file kept r pb nb cb pr cr vs) (hb : Below wr.heap.size wr wr') : OI w wr' g gt file kept r pb nb cb pr cr vs :=
  ⟨h.hb.trans (hb.mono h.hb.size), h.blk.below hb, h.bas.below hb, h.rcs.below hb, h.sls.below hb, h.ge⟩

theorem Slo.chX {u : TypeId} {w w' : World} {B g : Nat} {vs : List Value} {xss : List (List Int)} (h : Slo u w B vs xss) (he : Ex g w w') (hg : g < B) : Slo u w' B vs xss := h.exn he hg

/-- The tape's own words change. -/
theorem OI.words {w w4 w5 : World} {g gt file kept : Nat} {r : PR} {pb : Option Addr} {nb cb : Nat} {pr : Option Addr} {cr : Nat} {vs : List Value} (hb : Below w.heap.size w w4) (hge : gt = w.heap.size) (he : Ex gt w4 w5) (hl : gt < w4.heap.size)
    (ha : At 74 w5 gt #[.pointer (some ⟨g, 0, none⟩), .int .i64 file, .int .i64 kept, .int .i64 r.gen, .slice pb nb cb, .slice pr r.recs.length cr])
    (hO : Ow .u8 5 w4 (w.heap.size + 1) pb nb cb r.base) (hV : OwG 22 w4 (w.heap.size + 1) pr r.recs.length cr vs) (hS : Slo 5 w4 (w.heap.size + 1) vs r.recs) : OI w w5 g gt file kept r pb nb cb pr cr vs := by
  have hc := Ch.of_ex he
  refine ⟨hb.trans (he.below (by omega) hl), ha, hO.chC hc (fun x e h0 => ?_), hV.exn he (fun x e h0 => ?_), hS.exn he (by omega), hge⟩
  · have := (hO.ltC x e h0).1
    show ¬ x.block = gt
    omega
  · have := (hV.ltC x e h0).1
    omega

/-- The tape takes over a reel that was loaded. -/
theorem OI.load {w w4 : World} {g gt file kept : Nat} {r : PR} {pb : Option Addr} {nb cb : Nat} {pr : Option Addr} {cr : Nat} {vs : List Value} (h : OI w w4 g gt file kept r pb nb cb pr cr vs) (k : Nat) (r2 : PR) (B2 : Nat) (hB2 : w.heap.size < B2) {pb2 : Option Addr} {nb2 cb2 : Nat} {pr2 : Option Addr} {cr2 : Nat} {vs2 : List Value}
    (hO : Ow .u8 5 w4 B2 pb2 nb2 cb2 r2.base) (hV : OwG 22 w4 B2 pr2 r2.recs.length cr2 vs2) (hS : Slo 5 w4 B2 vs2 r2.recs) :
    OI w ((((w4.setCell ⟨gt, 3, none⟩ (.int .i64 r2.gen)).setCell ⟨gt, 4, none⟩ (.slice pb2 nb2 cb2)).setCell ⟨gt, 5, none⟩ (.slice pr2 r2.recs.length cr2)).setCell ⟨gt, 1, none⟩ (.int .i64 k)) g gt k kept r2 pb2 nb2 cb2 pr2 cr2 vs2 :=
  OI.words h.hb h.ge ((((Ex.refl gt w4).setCell 3 _).setCell 4 _ |>.setCell 5 _).setCell 1 _) h.blk.lt (heap_setCell_same _ gt 1 _ _ _ (At.put345 h.blk _ _ _)) (hO.lower hB2) (hV.lowerB hB2) (hS.lower hB2)

/-- How many last, when all was loaded. -/
theorem OI.keep {w w4 : World} {g gt file kept : Nat} {r : PR} {pb : Option Addr} {nb cb : Nat} {pr : Option Addr} {cr : Nat} {vs : List Value} (h : OI w w4 g gt file kept r pb nb cb pr cr vs) (k : Nat) :
    OI w (w4.setCell ⟨gt, 2, none⟩ (.int .i64 k)) g gt file k r pb nb cb pr cr vs :=
  OI.words h.hb h.ge ((Ex.refl gt w4).setCell 2 _) h.blk.lt (heap_setCell_same _ gt 2 _ _ _ h.blk) h.bas h.rcs h.sls

theorem Rd.ltb {k : IntKind} {w : World} {p : Option Addr} {n c : Nat} {xs : List Int} (h : Rd k w p n c xs) : ∀ x, p = some x → 0 < n → x.block < w.heap.size := fun x e h0 => by
  obtain ⟨b, o, e2, hcl⟩ := h.cells h0
  rw [e] at e2
  cases e2
  exact World.block_lt_of_cell? _ _ (hcl 0 h0)

theorem RdV.ltb {w : World} {p : Option Addr} {n c : Nat} {vs : List Value} (h : RdV w p n c vs) : ∀ x, p = some x → 0 < n → x.block < w.heap.size := fun x e h0 => by
  obtain ⟨b, o, e2, hcl⟩ := h.cells h0
  rw [e] at e2
  cases e2
  exact World.block_lt_of_cell? _ _ (hcl 0 h0)

theorem Sls.ltb {w : World} {vs : List Value} {xss : List (List Int)} (h : Sls w vs xss) : ∀ i q m d, i < vs.length → vs.getD i undef = .slice q m d → ∀ x, q = some x → 0 < m → x.block < w.heap.size := fun i q m d hi e x ex h0 => by
  obtain ⟨q', m', d', e', hr⟩ := h.2 i hi
  rw [e] at e'
  cases e'
  exact hr.ltb x ex h0

/-- A tape that was opened, all its blocks marked as another's: its memory is its own. -/
theorem OI.to {w w1 : World} {own : Nat → Nat} {g gt file kept : Nat} {r : PR} {pb : Option Addr} {nb cb : Nat} {pr : Option Addr} {cr : Nat} {vs : List Value} (h : OI w w1 g gt file kept r pb nb cb pr cr vs) (hg : g < w.heap.size) : TO w1 (farO own w.heap.size w1.heap.size) w.heap.size g gt ⟨file, kept, r⟩ pb nb cb pr cr vs := by
  have hF : ∀ k, w.heap.size + 1 ≤ k ∧ k < w1.heap.size → Fre (farO own w.heap.size w1.heap.size) g k ∧ k ≠ gt := fun k h1 => ⟨⟨farO_in (by omega) h1.2, by omega⟩, by have := h.ge; omega⟩
  refine ⟨h.bas.lower (Nat.le_succ _), fun x e h0 => hF _ (h.bas.ltC x e h0), h.rcs.lowerB (Nat.le_succ _), fun x e h0 => hF _ (h.rcs.ltC x e h0), h.sls.lower (Nat.le_succ _), fun i q m d hi e x ex h0 => ?_⟩
  obtain ⟨q', m', d', e', hr⟩ := h.sls.2 i hi
  rw [e] at e'
  cases e'
  exact hF _ (hr.ltC x ex h0)

theorem OI.tb {w w1 : World} {own : Nat → Nat} {g gt file kept : Nat} {r : PR} {pb : Option Addr} {nb cb : Nat} {pr : Option Addr} {cr : Nat} {vs : List Value} (h : OI w w1 g gt file kept r pb nb cb pr cr vs) (hg : g < w.heap.size) : TB w1 (farO own w.heap.size w1.heap.size) g gt ⟨file, kept, r⟩ pb nb cb pr cr vs :=
  (h.to hg).tb h.blk ⟨farO_in (by rw [h.ge]; exact Nat.le_refl _) h.blk.lt, by have := h.ge; omega⟩

end Go.Proofs.Ytpjhadaiodnnaaa.M
