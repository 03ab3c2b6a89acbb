/-
  Own text: Save of a tape, whatever the fuse is, whether there is room, and whether it fits.
-/
import Derived.Test.YtpjhadaiodnnaaaTWrite
namespace Go.Proofs.Ytpjhadaiodnnaaa.M
open Go.ChangeShapes Go.WideShapes Go.ChangeAt Go.RowKit
set_option linter.unusedSimpArgs false

/-- What Save leaves: the disk mz, and the tape as it was or with its next reel. -/
def SvPost (B : Nat) (own : Nat → Nat) (a g gt : Nat) (t : TP) (pb : Option Addr) (nb cb : Nat) (pr : Option Addr) (cr : Nat) (vs : List Value) (nl : Nat) (nx : PR) (mz : PD) (cz : Int) (w w' : World) : Prop :=
  ∃ own2 d2, DA w' B own2 a g d2 mz ∧ (∀ k, k < w.heap.size → own2 k = own k) ∧ Ch (fun k => k = g ∨ k = gt ∨ own k = mark a (1 - t.file)) w w' ∧ ((cz = 0 ∧ ∃ qb mb db qr dr us2, TB w' own2 g gt ⟨1 - t.file, nl, nx⟩ qb mb db qr dr us2 ∧ TO w' own2 w.heap.size g gt ⟨1 - t.file, nl, nx⟩ qb mb db qr dr us2) ∨ (cz ≠ 0 ∧ TB w' own2 g gt t pb nb cb pr cr vs))

theorem sealR_len {r : PR} (h : r.ok) : (sealR r).length ≤ 8206000000 + 8206 := by
  unfold sealR
  rw [List.length_append]
  have h1 := sealL_len_le (headR_ok h).2
  have h2 := flat_len (l := r.recs) (fun i hi => (h.recs i hi).2) r.recs.length (Nat.le_refl _)
  rw [List.take_length] at h2
  have h3 := h.few
  omega

set_option maxRecDepth 20000 in
set_option maxHeartbeats 8000000 in
theorem Save_any (w : World) (B : Nat) (own : Nat → Nat) (a g : Nat) (d : Dk) (m : PD) (ha : a ≤ 100) (h : DA w B own a g d m) (s : Nat) (hm : Fit m s) (hs : s ≤ 274877906944) (hB : B ≤ w.heap.size) (gt : Nat) (t : TP) (pb : Option Addr) (nb cb : Nat) (pr : Option Addr) (cr : Nat) (vs : List Value) (hT : TB w own g gt t pb nb cb pr cr vs) (hfile : t.file ≤ 1) (hgen : 0 ≤ t.r.gen ∧ t.r.gen < 1099511627776)
    (pa : Option Addr) (na ca : Nat) (base : List Int) (hpa : Rd .u8 w pa na ca base) (hby : By base) (hna : na ≤ 8176) (pl : Option Addr) (nl cl : Nat) (us : List Value) (recs : List (List Int)) (hpl : RdV w pl nl cl us) (hus : Sls w us recs) (hnl : nl = recs.length) (hfew : nl ≤ 1000000) (hrec : ∀ i, i < recs.length → By (recs.getD i []) ∧ (recs.getD i []).length ≤ 8192) :
    Calls Try.prog 21 #[.pointer (some ⟨gt, 0, none⟩), .slice pa na ca, .slice pl nl cl] w fun e w' => e = .returned (.int .i64 (wrM m (1 - t.file) (sealR ⟨t.r.gen + 1, base, recs⟩)).2) ∧ SvPost B own a g gt t pb nb cb pr cr vs nl ⟨t.r.gen + 1, base, recs⟩ (wrM m (1 - t.file) (sealR ⟨t.r.gen + 1, base, recs⟩)).1 (wrM m (1 - t.file) (sealR ⟨t.r.gen + 1, base, recs⟩)).2 w w' := by
  have HN : Hid (nl = recs.length) := hnl
  obtain ⟨cz, HCZ⟩ : ∃ z, Hid (z = (wrM m (1 - t.file) (sealR ⟨t.r.gen + 1, base, recs⟩)).2) := ⟨_, rfl⟩
  obtain ⟨mz, HMZ⟩ : ∃ z, Hid (z = (wrM m (1 - t.file) (sealR ⟨t.r.gen + 1, base, recs⟩)).1) := ⟨_, rfl⟩
  rw [← HCZ.out, ← HMZ.out]
  have hgl : g < w.heap.size := h.dc.lt
  have hgtl : gt < w.heap.size := hT.blk.lt
  have hM := tmade_yes w gt g (hT.blk.cell 0)
  have c3 := hT.blk.cell 3
  have hF := fits_any pa na ca pl nl cl us recs w hpl hus hnl hfew
  have hfit : fitsR na recs = true := by unfold fitsR; rw [decide_eq_true hna, Bool.true_and]; exact shortV_yes fun i hi => (hrec i hi).2
  rw [hfit] at hF
  have hge : decide ((1099511627776 : Int) ≤ t.r.gen) = false := decide_eq_false (by omega)
  have hi8 : 1 - t.file < 8 := by omega
  have hok : PR.ok ⟨t.r.gen + 1, base, recs⟩ := ⟨by show 0 ≤ t.r.gen + 1 ∧ t.r.gen + 1 ≤ 1099511627776; omega, ⟨by show base.length ≤ 8176; rw [hpa.len]; exact hna, hby⟩, by show recs.length ≤ 1000000; rw [← HN.out]; exact hfew, hrec⟩
  clear hfit hnl
  go_enter Try.func21, Try.ntmps21
  go_wp2_with fail
  refine hM.mono ?_
  rintro e w0 ⟨rfl, hw0⟩
  subst hw0
  clear hM
  go_wp2_with fail
  refine hF.mono ?_
  rintro e w1 ⟨rfl, hb1⟩
  clear hF
  have hFo := follow_any w1 gt t.r.gen (cell_below hb1 c3) hgen pa na ca base (hpa.below hb1) (by omega) pl nl cl us recs (hpl.below hb1) (hus.below hb1) HN.out hfew (fun i hi => (hrec i hi).2)
  clear c3
  go_wp2_with fail
  refine hFo.mono ?_
  rintro e w2 ⟨⟨v, rfl, qb, mb, db, qr, dr, us2, rfl, hO2, hV2, hS2⟩, hb2⟩
  dsimp only at hO2 hV2 hS2
  obtain ⟨nr, HNR⟩ : ∃ z, z = recs.length := ⟨_, rfl⟩
  rw [← HNR] at hV2
  dsimp only
  rw [← HNR]
  have HNR2 : Hid (nr = recs.length) := HNR
  clear HNR hFo
  have hb12 := hb1.trans (hb2.mono hb1.size)
  have hba3 := below_alloc w2 (.cells #[.int .i64 (t.r.gen + 1), .slice qb mb db, .slice qr nr dr] 72)
  have hG3 := At.new 72 w2 #[.int .i64 (t.r.gen + 1), .slice qb mb db, .slice qr nr dr]
  have hb3 := hb12.trans (hba3.mono hb12.size)
  have hO3 := hO2.below hba3
  have hV3 := hV2.below hba3
  have hS3 := hS2.below hba3
  have hgb : w0.heap.size ≤ w2.heap.size := hb12.size
  have hT3 := hT.below hb3
  have hOt := other_any _ gt t.file hfile (hT3.blk.cell 1)
  have hSe := sealed_any _ w2.heap.size ⟨t.r.gen + 1, base, recs⟩ hok qb mb db qr dr us2 (by show At 72 _ _ #[.int .i64 (t.r.gen + 1), .slice qb mb db, .slice qr recs.length dr]; rw [← HNR2.out]; exact hG3) hO3.rd (by show RdV _ _ recs.length _ _; rw [← HNR2.out]; exact hV3.rd) hS3.sls
  go_wp2_with fail
  refine hOt.mono ?_
  rintro e w3 ⟨rfl, hw3⟩
  subst hw3
  go_wp2_with fail
  refine hSe.mono ?_
  rintro e w4 ⟨⟨ps, ns, cs, rfl, hOs⟩, hb4⟩
  clear hOt hSe
  have hb04 := hb3.trans (hb4.mono hb3.size)
  have hD4 := h.marked hb04
  have hG4 := hG3.below hb4
  have hO4 := hO3.below hb4
  have hV4 := hV3.below hb4
  have hS4 := hS3.below hb4
  have hT4 := hT.blk.below hb04
  have hogt : farO own w0.heap.size w4.heap.size gt = farM := (farO_low hgtl).trans hT.fg.1
  have hns : ns = (sealR ⟨t.r.gen + 1, base, recs⟩).length := hOs.len.symm
  have hWr := write_any w4 B _ a g d m s hD4 hm hs (Nat.le_trans hB hb04.size) (1 - t.file) hi8 gt (hT4.cell 0) (by rw [hogt]; exact far_mark ha hi8) hT.fg.2 ps ns cs _ hOs.rd (fun x e h0 => by
    have h1 := hOs.fre (w := w0) (own := own) (g := g) (hi := w4.heap.size) (Nat.le_refl _) hgl hb3.size x e (Nat.lt_of_lt_of_le h0 hOs.cap)
    exact ⟨by rw [h1.1.1]; exact far_mark ha hi8, h1.1.2⟩) (by rw [hns]; exact Nat.le_trans (sealR_len hok) (by decide))
  rw [← HCZ.out, ← HMZ.out] at hWr
  have hgb4 : w2.heap.size < w4.heap.size := hG4.lt
  obtain ⟨gb, hgbe⟩ : ∃ z, z = w2.heap.size := ⟨_, rfl⟩
  rw [← hgbe] at hG4 hgb hgb4 ⊢
  have HGB : Hid (gb = w2.heap.size) := hgbe
  have HGB4 : Hid (gb < w4.heap.size) := hgb4
  have HGBL : Hid (w0.heap.size ≤ gb) := hgb
  clear hgbe hns hgb4 hgb
  go_wp2_with fail
  refine hWr.mono ?_
  rintro e w6 ⟨rfl, own5, d5, hD5, ho5, hc5⟩
  clear hWr
  by_cases hcz : cz = 0
  · clear HCZ
    subst hcz
    have hfgb : Fre (farO own w0.heap.size w4.heap.size) g gb := ⟨farO_in HGBL.out HGB4.out, by have := HGBL.out; omega⟩
    have hG6 := hG4.ch hc5 (hfgb.not ha hi8)
    have hT6 := hT4.ch hc5 (Fre.not (g := g) ⟨hogt, hT.fg.2⟩ ha hi8)
    have hgbt : gb ≠ gt := by have := HGBL.out; omega
    have hS6 : Sv w6 gt gb #[.pointer (some ⟨g, 0, none⟩), .int .i64 t.file, .int .i64 t.kept, .int .i64 t.r.gen, .slice pb nb cb, .slice pr t.r.recs.length cr] (t.r.gen + 1) qb mb db qr nr dr w6.drew := Sv.stays _ _ _ _ _ _ _ _ _ _ _ w6 _ ⟨hT6, hG6, Ex.refl _ _⟩ ((Below.refl _ _).drew)
    have HNL : Hid (nl = nr) := by show _ = _; rw [HNR2.out]; exact HN.out
    rw [HNL.out]
    clear hG4 hT4 hD4
    go_wp2_with fail
    refine wp_region_det [0, 1, 2, 3, 4, 6, 7] (fun W => W.rangeAt gb 0 [.int .i64 (t.r.gen + 1), .slice qb mb db, .slice qr nr dr]) (Sv w6 gt gb #[.pointer (some ⟨g, 0, none⟩), .int .i64 t.file, .int .i64 t.kept, .int .i64 t.r.gen, .slice pb nb cb, .slice pr t.r.recs.length cr] (t.r.gen + 1) qb mb db qr nr dr) (by kernel_rfl) hS6 ?_
    refine wpDet_take ?vA0 (Sv.stays _ _ _ _ _ _ _ _ _ _ _) (fun W h => h.rg) (i := 0) rfl (by kernel_rfl) (by kernel_rfl) (by kernel_rfl) (by kernel_rfl) (fun _ _ _ h => h) (Gives.value (by rfl) ?yA0) ?rA0
    case yA0 => (intro w' hSw; go_simp; try with_reducible rfl)
    (try simp only [Act.put, List.getElem_toArray, List.getElem_cons_zero, List.getElem_cons_succ, List.setIfInBounds_toArray, List.set_cons_zero, List.set_cons_succ])
    refine wpDet_take ?vA1 (Sv.stays _ _ _ _ _ _ _ _ _ _ _) (fun W h => h.rg) (i := 1) rfl (by kernel_rfl) (by kernel_rfl) (by kernel_rfl) (by kernel_rfl) (fun _ _ _ h => h) (Gives.value (by rfl) ?yA1) ?rA1
    case yA1 => (intro w' hSw; go_simp; try with_reducible rfl)
    (try simp only [Act.put, List.getElem_toArray, List.getElem_cons_zero, List.getElem_cons_succ, List.setIfInBounds_toArray, List.set_cons_zero, List.set_cons_succ])
    refine wpDet_take ?vA2 (Sv.stays _ _ _ _ _ _ _ _ _ _ _) (fun W h => h.rg) (i := 2) rfl (by kernel_rfl) (by kernel_rfl) (by kernel_rfl) (by kernel_rfl) (fun _ _ _ h => h) (Gives.value (by rfl) ?yA2) ?rA2
    case yA2 => (intro w' hSw; go_simp; try with_reducible rfl)
    (try simp only [Act.put, List.getElem_toArray, List.getElem_cons_zero, List.getElem_cons_succ, List.setIfInBounds_toArray, List.set_cons_zero, List.set_cons_succ])
    refine wpDet_take _ (Sv.stays _ _ _ _ _ _ _ _ _ _ _) (fun W h => h.rg) (i := 3) rfl (by kernel_rfl) (by kernel_rfl) (by kernel_rfl) (by kernel_rfl) (fun _ _ _ h => h) (Gives.of_yields (yieldsIf_load_mid (by rfl) _ _ rfl _ _ rfl _ _ (fun W h => h) Try.underlying72 rfl sizeR)) ?_
    (try simp only [Act.put, List.getElem_toArray, List.getElem_cons_zero, List.getElem_cons_succ, List.setIfInBounds_toArray, List.set_cons_zero, List.set_cons_succ])
    refine wpDet_take ?vA4 (Sv.stays _ _ _ _ _ _ _ _ _ _ _) (fun W h => h.rg) (i := 4) rfl (by kernel_rfl) (by kernel_rfl) (by kernel_rfl) (by kernel_rfl) (fun _ _ _ h => h) (Gives.value (by rfl) ?yA4) ?rA4
    case yA4 => (intro w' hSw; go_simp; try with_reducible rfl)
    (try simp only [Act.put, List.getElem_toArray, List.getElem_cons_zero, List.getElem_cons_succ, List.setIfInBounds_toArray, List.set_cons_zero, List.set_cons_succ])
    refine wpDet_take ?vA6 (Sv.stays _ _ _ _ _ _ _ _ _ _ _) (fun W h => h.rg) (i := 6) rfl (by kernel_rfl) (by kernel_rfl) (by kernel_rfl) (by kernel_rfl) (fun _ _ _ h => h) (Gives.value (by rfl) ?yA6) ?rA6
    case yA6 => (intro w' hSw; go_simp; try with_reducible rfl)
    (try simp only [Act.put, List.getElem_toArray, List.getElem_cons_zero, List.getElem_cons_succ, List.setIfInBounds_toArray, List.set_cons_zero, List.set_cons_succ])
    refine wpDet_take ?vA7 (Sv.stays _ _ _ _ _ _ _ _ _ _ _) (fun W h => h.rg) (i := 7) rfl (by kernel_rfl) (by kernel_rfl) (by kernel_rfl) (by kernel_rfl) (fun _ _ _ h => h) (Gives.value (by rfl) ?yA7) ?rA7
    case yA7 => (intro w' hSw; go_simp; try with_reducible rfl)
    (try simp only [Act.put, List.getElem_toArray, List.getElem_cons_zero, List.getElem_cons_succ, List.setIfInBounds_toArray, List.set_cons_zero, List.set_cons_succ])
    refine wpDet_ready (rs := [5]) (by kernel_rfl) (by simp) (AllDet.cons rfl (fun V hV K hK => ?_) AllDet.nil)
    rw [if_pos (by rfl)]
    have hC := other_any V gt t.file hfile (hV.at0.cell 1)
    refine wp_enterX 58 #[.pointer (some ⟨gt, 0, none⟩)] (by first | (go_simp; done) | (go_simp; rfl)) (fun v V' => v = .int .i64 ((1 - t.file : Nat) : Int) ∧ V' = V) (hC.mono fun e V' ⟨h1, h2⟩ => ⟨_, h1, rfl, h2⟩) ?_
    rintro v V' ⟨rfl, rfl⟩
    refine hK.out (Sv w6 gt gb #[.pointer (some ⟨g, 0, none⟩), .int .i64 t.file, .int .i64 t.kept, .int .i64 t.r.gen, .slice pb nb cb, .slice pr t.r.recs.length cr] (t.r.gen + 1) qb mb db qr nr dr) _ _ (Sv.stays _ _ _ _ _ _ _ _ _ _ _) (fun _ W h => h.rg) hV ?_
    clear hK K hC hV
    (try simp only [Act.put, List.getElem_toArray, List.getElem_cons_zero, List.getElem_cons_succ, List.setIfInBounds_toArray, List.set_cons_zero, List.set_cons_succ])
    refine wpDet_ready (rs := [8]) (by kernel_rfl) (by simp) (AllDet.cons rfl (fun V hV K hK => ?_) AllDet.nil)
    rw [if_pos (by rfl)]
    refine wp_value (.pointer (some ⟨gt, 0, none⟩)) V (by first | (go_simp; done) | (go_simp; rfl)) ?_
    refine hK.out (Sv w6 gt gb #[.pointer (some ⟨g, 0, none⟩), .int .i64 t.file, .int .i64 t.kept, .int .i64 t.r.gen, .slice pb nb cb, .slice pr t.r.recs.length cr] (t.r.gen + 1) qb mb db qr nr dr) _ _ (Sv.stays _ _ _ _ _ _ _ _ _ _ _) (fun _ W h => h.rg) hV ?_
    clear hK K hV
    (try simp only [Act.put, List.getElem_toArray, List.getElem_cons_zero, List.getElem_cons_succ, List.setIfInBounds_toArray, List.set_cons_zero, List.set_cons_succ])
    refine wpDet_ready (rs := [9]) (by kernel_rfl) (by simp) (AllDet.cons rfl (fun V hV K hK => ?_) AllDet.nil)
    rw [if_pos (by rfl)]
    refine wp_value (.pointer (some ⟨gt, 3, none⟩)) V (by first | (go_simp; done) | (go_simp; rfl)) ?_
    refine hK.out (Sv w6 gt gb #[.pointer (some ⟨g, 0, none⟩), .int .i64 t.file, .int .i64 t.kept, .int .i64 t.r.gen, .slice pb nb cb, .slice pr t.r.recs.length cr] (t.r.gen + 1) qb mb db qr nr dr) _ _ (Sv.stays _ _ _ _ _ _ _ _ _ _ _) (fun _ W h => h.rg) hV ?_
    clear hK K hV
    (try simp only [Act.put, List.getElem_toArray, List.getElem_cons_zero, List.getElem_cons_succ, List.setIfInBounds_toArray, List.set_cons_zero, List.set_cons_succ])
    refine wpDet_ready (rs := [10]) (by kernel_rfl) (by simp) (AllDet.cons rfl (fun V hV K hK => ?_) AllDet.nil)
    rw [if_pos (by rfl)]
    have hth : V.there gt 3 3 := fun j hj => by
      refine ⟨?_, hV.at0.free (3 + j)⟩
      match j, hj with
      | 0, _ => rw [hV.at0.cell 3]; rfl
      | 1, _ => rw [hV.at0.cell 4]; rfl
      | 2, _ => rw [hV.at0.cell 5]; rfl
    refine wp_store_mid 72 _ _ rfl gt 3 #[.int .i64 (t.r.gen + 1), .slice qb mb db, .slice qr nr dr] rfl rfl hth sizeR (by simp [Value.oneCell']) ?_
    have hz : (Sv w6 gt gb #[.pointer (some ⟨g, 0, none⟩), .int .i64 t.file, .int .i64 t.kept, .int .i64 (t.r.gen + 1), .slice qb mb db, .slice qr nr dr] (t.r.gen + 1) qb mb db qr nr dr) (V.setCells gt 3 (#[.int .i64 (t.r.gen + 1), .slice qb mb db, .slice qr nr dr] : Array Value).toList) := hV.put (((Ex.refl gt V).setCell 3 _).setCell 4 _ |>.setCell 5 _) (At.put345 hV.at0 _ _ _) hgbt
    refine hK.out (Sv w6 gt gb #[.pointer (some ⟨g, 0, none⟩), .int .i64 t.file, .int .i64 t.kept, .int .i64 (t.r.gen + 1), .slice qb mb db, .slice qr nr dr] (t.r.gen + 1) qb mb db qr nr dr) _ _ (Sv.stays _ _ _ _ _ _ _ _ _ _ _) (fun _ W h => h.rg) hz ?_
    clear hK K hV hth hz
    (try simp only [Act.put, List.getElem_toArray, List.getElem_cons_zero, List.getElem_cons_succ, List.setIfInBounds_toArray, List.set_cons_zero, List.set_cons_succ])
    refine wpDet_ready (rs := [11]) (by kernel_rfl) (by simp) (AllDet.cons rfl (fun V hV K hK => ?_) AllDet.nil)
    rw [if_pos (by rfl)]
    refine wp_value (.pointer (some ⟨gt, 0, none⟩)) V (by first | (go_simp; done) | (go_simp; rfl)) ?_
    refine hK.out (Sv w6 gt gb #[.pointer (some ⟨g, 0, none⟩), .int .i64 t.file, .int .i64 t.kept, .int .i64 (t.r.gen + 1), .slice qb mb db, .slice qr nr dr] (t.r.gen + 1) qb mb db qr nr dr) _ _ (Sv.stays _ _ _ _ _ _ _ _ _ _ _) (fun _ W h => h.rg) hV ?_
    clear hK K hV
    (try simp only [Act.put, List.getElem_toArray, List.getElem_cons_zero, List.getElem_cons_succ, List.setIfInBounds_toArray, List.set_cons_zero, List.set_cons_succ])
    refine wpDet_ready (rs := [12]) (by kernel_rfl) (by simp) (AllDet.cons rfl (fun V hV K hK => ?_) AllDet.nil)
    rw [if_pos (by rfl)]
    refine wp_value (.pointer (some ⟨gt, 1, none⟩)) V (by first | (go_simp; done) | (go_simp; rfl)) ?_
    refine hK.out (Sv w6 gt gb #[.pointer (some ⟨g, 0, none⟩), .int .i64 t.file, .int .i64 t.kept, .int .i64 (t.r.gen + 1), .slice qb mb db, .slice qr nr dr] (t.r.gen + 1) qb mb db qr nr dr) _ _ (Sv.stays _ _ _ _ _ _ _ _ _ _ _) (fun _ W h => h.rg) hV ?_
    clear hK K hV
    (try simp only [Act.put, List.getElem_toArray, List.getElem_cons_zero, List.getElem_cons_succ, List.setIfInBounds_toArray, List.set_cons_zero, List.set_cons_succ])
    refine wpDet_ready (rs := [13]) (by kernel_rfl) (by simp) (AllDet.cons rfl (fun V hV K hK => ?_) AllDet.nil)
    rw [if_pos (by rfl)]
    refine wp_store_one _ _ _ rfl gt 1 (.int .i64 ((1 - t.file : Nat) : Int)) rfl rfl _ rfl rfl sizeI (hV.at0.cell 1) (hV.at0.free 1) ?_
    have hz : (Sv w6 gt gb #[.pointer (some ⟨g, 0, none⟩), .int .i64 ((1 - t.file : Nat) : Int), .int .i64 t.kept, .int .i64 (t.r.gen + 1), .slice qb mb db, .slice qr nr dr] (t.r.gen + 1) qb mb db qr nr dr) (V.setCell ⟨gt, 1, none⟩ (.int .i64 ((1 - t.file : Nat) : Int))) := hV.put ((Ex.refl gt V).setCell 1 _) (heap_setCell_same V gt 1 _ _ _ hV.at0) hgbt
    refine hK.out (Sv w6 gt gb #[.pointer (some ⟨g, 0, none⟩), .int .i64 ((1 - t.file : Nat) : Int), .int .i64 t.kept, .int .i64 (t.r.gen + 1), .slice qb mb db, .slice qr nr dr] (t.r.gen + 1) qb mb db qr nr dr) _ _ (Sv.stays _ _ _ _ _ _ _ _ _ _ _) (fun _ W h => h.rg) hz ?_
    clear hK K hV hz
    (try simp only [Act.put, List.getElem_toArray, List.getElem_cons_zero, List.getElem_cons_succ, List.setIfInBounds_toArray, List.set_cons_zero, List.set_cons_succ])
    refine wpDet_ready (rs := [14]) (by kernel_rfl) (by simp) (AllDet.cons rfl (fun V hV K hK => ?_) AllDet.nil)
    rw [if_pos (by rfl)]
    refine wp_value (.pointer (some ⟨gt, 0, none⟩)) V (by first | (go_simp; done) | (go_simp; rfl)) ?_
    refine hK.out (Sv w6 gt gb #[.pointer (some ⟨g, 0, none⟩), .int .i64 ((1 - t.file : Nat) : Int), .int .i64 t.kept, .int .i64 (t.r.gen + 1), .slice qb mb db, .slice qr nr dr] (t.r.gen + 1) qb mb db qr nr dr) _ _ (Sv.stays _ _ _ _ _ _ _ _ _ _ _) (fun _ W h => h.rg) hV ?_
    clear hK K hV
    (try simp only [Act.put, List.getElem_toArray, List.getElem_cons_zero, List.getElem_cons_succ, List.setIfInBounds_toArray, List.set_cons_zero, List.set_cons_succ])
    refine wpDet_ready (rs := [15]) (by kernel_rfl) (by simp) (AllDet.cons rfl (fun V hV K hK => ?_) AllDet.nil)
    rw [if_pos (by rfl)]
    refine wp_value (.pointer (some ⟨gt, 2, none⟩)) V (by first | (go_simp; done) | (go_simp; rfl)) ?_
    refine hK.out (Sv w6 gt gb #[.pointer (some ⟨g, 0, none⟩), .int .i64 ((1 - t.file : Nat) : Int), .int .i64 t.kept, .int .i64 (t.r.gen + 1), .slice qb mb db, .slice qr nr dr] (t.r.gen + 1) qb mb db qr nr dr) _ _ (Sv.stays _ _ _ _ _ _ _ _ _ _ _) (fun _ W h => h.rg) hV ?_
    clear hK K hV
    (try simp only [Act.put, List.getElem_toArray, List.getElem_cons_zero, List.getElem_cons_succ, List.setIfInBounds_toArray, List.set_cons_zero, List.set_cons_succ])
    refine wpDet_ready (rs := [16]) (by kernel_rfl) (by simp) (AllDet.cons rfl (fun V hV K hK => ?_) AllDet.nil)
    rw [if_pos (by rfl)]
    refine wp_store_one _ _ _ rfl gt 2 (.int .i64 nr) rfl rfl _ rfl rfl sizeI (hV.at0.cell 2) (hV.at0.free 2) ?_
    have hz : (Sv w6 gt gb #[.pointer (some ⟨g, 0, none⟩), .int .i64 ((1 - t.file : Nat) : Int), .int .i64 nr, .int .i64 (t.r.gen + 1), .slice qb mb db, .slice qr nr dr] (t.r.gen + 1) qb mb db qr nr dr) (V.setCell ⟨gt, 2, none⟩ (.int .i64 nr)) := hV.put ((Ex.refl gt V).setCell 2 _) (heap_setCell_same V gt 2 _ _ _ hV.at0) hgbt
    refine hK.out (Sv w6 gt gb #[.pointer (some ⟨g, 0, none⟩), .int .i64 ((1 - t.file : Nat) : Int), .int .i64 nr, .int .i64 (t.r.gen + 1), .slice qb mb db, .slice qr nr dr] (t.r.gen + 1) qb mb db qr nr dr) _ _ (Sv.stays _ _ _ _ _ _ _ _ _ _ _) (fun _ W h => h.rg) hz ?_
    clear hK K hV hz
    (try simp only [Act.put, List.getElem_toArray, List.getElem_cons_zero, List.getElem_cons_succ, List.setIfInBounds_toArray, List.set_cons_zero, List.set_cons_succ])
    refine wpDet_done (by kernel_rfl) (fun W7 hW7 => ?_) _
    have hw1 : w0.heap.size ≤ w1.heap.size := hb1.size
    have hnS : ∀ k, w1.heap.size ≤ k → k < w4.heap.size → ¬ (k = g ∨ farO own w0.heap.size w4.heap.size k = mark a (1 - t.file)) := fun k h1 h2 => Fre.not (own := farO own w0.heap.size w4.heap.size) (g := g) ⟨farO_in (Nat.le_trans hw1 h1) h2, by omega⟩ ha hi8
    have hCx := Ch.of_ex hW7.ex
    have hnX : ∀ k, w1.heap.size ≤ k → k < w6.heap.size → ¬ (k = gt) := fun k h1 _ => by omega
    have hO7 := (hO4.chB hc5 hnS).chB hCx hnX
    have hV7 := (hV4.chB hc5 hnS).chB hCx hnX
    have hS7 := (hS4.chB hc5 hnS).chB hCx hnX
    have how : own5 gt = farM := (ho5 gt (Nat.lt_of_lt_of_le hgtl hb04.size)).trans hogt
    have hD7 := hD5.exF ha hW7.ex how hT.fg.2
    have hA7 := hW7.at0
    have hc7 : Ch (fun k => k = g ∨ k = gt ∨ own k = mark a (1 - t.file)) w0 W7 := ((Ch.of_below hb04 (fun k => k = g ∨ k = gt ∨ own k = mark a (1 - t.file))).then hc5 (fun k hk e => e.elim Or.inl (fun e => Or.inr (Or.inr (by rw [farO_low hk] at e; exact e))))).then hCx (fun k _ e => Or.inr (Or.inl e))
    have hn5 : ∀ k, k < w0.heap.size → own5 k = own k := fun k hk => (ho5 k (Nat.lt_of_lt_of_le hk hb04.size)).trans (farO_low hk)
    have hTO : TO W7 own5 w0.heap.size g gt ⟨1 - t.file, nl, ⟨t.r.gen + 1, base, recs⟩⟩ qb mb db qr dr us2 := by
      refine ⟨hO7.lower hw1, fun x e h0 => ?_, ?_, fun x e h0 => ?_, hS7.lower hw1, fun i q m d hi e x ex h0 => ?_⟩
      · have h1 := hO4.fre (w := w0) (own := own) (g := g) (hi := w4.heap.size) (Nat.le_refl _) hgl hw1 x e h0
        exact ⟨h1.1.to h1.2.2 ho5, by omega⟩
      · show OwG 22 W7 w0.heap.size qr recs.length dr us2
        rw [← HNR2.out]
        exact (hV7.lowerB hw1).g
      · have h1 := hV4.fre (w := w0) (own := own) (g := g) (hi := w4.heap.size) (Nat.le_refl _) hgl hw1 x e h0
        exact ⟨h1.1.to h1.2.2 ho5, by omega⟩
      · obtain ⟨q', m', d', e', hr⟩ := hS4.2 i hi
        rw [e] at e'
        cases e'
        have h1 := hr.fre (w := w0) (own := own) (g := g) (hi := w4.heap.size) (Nat.le_refl _) hgl hw1 x ex h0
        exact ⟨h1.1.to h1.2.2 ho5, by omega⟩
    have hT7 : TB W7 own5 g gt ⟨1 - t.file, nl, ⟨t.r.gen + 1, base, recs⟩⟩ qb mb db qr dr us2 := by
      refine hTO.tb ?_ ⟨how, hT.fg.2⟩
      show At 74 W7 gt #[.pointer (some ⟨g, 0, none⟩), .int .i64 ((1 - t.file : Nat) : Int), .int .i64 (nl : Int), .int .i64 (t.r.gen + 1), .slice qb mb db, .slice qr recs.length dr]
      rw [HNL.out, ← HNR2.out]
      exact hA7
    go_wp2_with fail
    go_ret
    exact ⟨rfl, own5, d5, hD7, hn5, hc7, Or.inl ⟨rfl, qb, mb, db, qr, dr, us2, hT7, hTO⟩⟩

  · have hczn : (cz != 0) = true := by simpa using hcz
    have hn5 : ∀ k, k < w0.heap.size → own5 k = own k := fun k hk => (ho5 k (Nat.lt_of_lt_of_le hk hb04.size)).trans (farO_low hk)
    have hc6 : Ch (fun k => k = g ∨ own k = mark a (1 - t.file)) w0 w6 := (Ch.of_below hb04 (fun k => k = g ∨ own k = mark a (1 - t.file))).then hc5 (fun k hk e => e.elim Or.inl (fun e => Or.inr (by rw [farO_low hk] at e; exact e)))
    have hT6 : TB w6 own5 g gt t pb nb cb pr cr vs := TB.ch ha hi8 hT hc6 hn5
    have HR : Hid (SvPost B own a g gt t pb nb cb pr cr vs nl ⟨t.r.gen + 1, base, recs⟩ mz cz w0 w6) :=
      ⟨own5, d5, hD5, hn5, hc6.mono (fun k _ e => e.elim Or.inl (fun e => Or.inr (Or.inr e))), Or.inr ⟨hcz, hT6⟩⟩
    clear hn5 hc6 hT6 hD5 ho5 hc5 hG4 hT4 hD4 hO4 hV4 hS4 hT3 hT
    go_wp2_with fail
    go_ret
    exact ⟨rfl, HR.out⟩

set_option maxRecDepth 20000 in
set_option maxHeartbeats 2000000 in
theorem Save_range (w : World) (gt g : Nat) (gen : Int) (h0 : w.cell? ⟨gt, 0, none⟩ = some (.pointer (some ⟨g, 0, none⟩))) (h3 : w.cell? ⟨gt, 3, none⟩ = some (.int .i64 gen)) (hgen : 1099511627776 ≤ gen) (pa : Option Addr) (na ca : Nat) (pl : Option Addr) (nl cl : Nat) :
    Calls Try.prog 21 #[.pointer (some ⟨gt, 0, none⟩), .slice pa na ca, .slice pl nl cl] w fun e w' => e = .returned (.int .i64 5) ∧ w' = w := by
  have hM := tmade_yes w gt g h0
  have hge : decide ((1099511627776 : Int) ≤ gen) = true := decide_eq_true hgen
  clear h0
  go_enter Try.func21, Try.ntmps21
  go_wp2_with fail
  refine hM.mono ?_
  rintro e w0 ⟨rfl, hw0⟩
  subst hw0
  clear hM
  go_wp2_with fail
  go_ret
  exact ⟨rfl, rfl⟩

set_option maxRecDepth 20000 in
set_option maxHeartbeats 2000000 in
theorem Save_long (w : World) (gt g : Nat) (gen : Int) (h0 : w.cell? ⟨gt, 0, none⟩ = some (.pointer (some ⟨g, 0, none⟩))) (h3 : w.cell? ⟨gt, 3, none⟩ = some (.int .i64 gen)) (hgen : gen < 1099511627776) (pa : Option Addr) (na ca : Nat) (pl : Option Addr) (nl cl : Nat) (us : List Value) (recs : List (List Int)) (hpl : RdV w pl nl cl us) (hus : Sls w us recs) (hnl : nl = recs.length) (hfew : nl ≤ 1000000) (hfit : fitsR na recs = false) :
    Calls Try.prog 21 #[.pointer (some ⟨gt, 0, none⟩), .slice pa na ca, .slice pl nl cl] w fun e w' => e = .returned (.int .i64 4) ∧ Below w.heap.size w w' := by
  have hM := tmade_yes w gt g h0
  have hF := fits_any pa na ca pl nl cl us recs w hpl hus hnl hfew
  rw [hfit] at hF
  have hge : decide ((1099511627776 : Int) ≤ gen) = false := decide_eq_false (by omega)
  clear h0 hnl hfit hgen
  go_enter Try.func21, Try.ntmps21
  go_wp2_with fail
  refine hM.mono ?_
  rintro e w0 ⟨rfl, hw0⟩
  subst hw0
  clear hM
  go_wp2_with fail
  refine hF.mono ?_
  rintro e w1 ⟨rfl, hb1⟩
  clear hF
  go_wp2_with fail
  go_ret
  exact ⟨rfl, hb1⟩

end Go.Proofs.Ytpjhadaiodnnaaa.M
