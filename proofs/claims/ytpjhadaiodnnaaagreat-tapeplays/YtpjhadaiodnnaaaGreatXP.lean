/-
  Own text: Sync and Put of the document's tape.
  Own text: a law's own blocks, marked, beside a tape: what the tape does leaves them, and what the law does to them leaves the tape.
  Own text: the program's tape and the document's, side by side, whatever is done to either.
  Own text: what stays true of a disk and a tape whatever is done to them, in plain words.
  Own text: each call of both tapes, side by side.
  Own text: rows of bytes that the law may write over; both disks at their beginning.
  Own text: what the walk of the law TapePlays needs.
  Own text: the law's list of rows beside both tapes, and what becomes of it.
-/
import Derived.Test.YtpjhadaiodnnaaaGreatXH
import Derived.Test.YtpjhadaiodnnaaaGreatXE
section
namespace Go.Proofs.YtpjhadaiodnnaaaGreat.M
open Go.ChangeShapes Go.WideShapes Go.ChangeAt Go.RowKit
set_option linter.unusedSimpArgs false

set_option maxRecDepth 20000 in
set_option maxHeartbeats 2000000 in
theorem rTSync_any (w : World) (g gx : Nat) (F : Nat → Prop) (hF : ∀ j, w.heap.size ≤ j → F j) (m : PD) (t : TP) (k : Sl) (p : Option Addr) (c : Nat) (h : RX w g gx F m t k p c) (s : Nat) (hm : m.ok s) (hs : s ≤ 1099511627) (hp : m.pre) (hw : m.down = false) (hfile : t.file ≤ 1) :
    Calls Tryz.prog 13 #[.pointer (some ⟨gx, 0, none⟩)] w (SvQ w g gx F (syT m t)) := by
  have HX : Hid (RX w g gx F m t k p c) := h
  have HF : Hid (∀ j, w.heap.size ≤ j → F j) := hF
  have HC0 : Hid (w.cell? ⟨gx, 0, none⟩ = some (.pointer (some ⟨g, 0, none⟩))) := h.rt.blk.cell 0
  have HC4 : Hid (w.cell? ⟨gx, 4, none⟩ = some (.int .i64 t.file)) := h.rt.blk.cell 4
  have HM : Hid (m.ok s ∧ s ≤ 1099511627 ∧ m.pre ∧ m.down = false ∧ t.file ≤ 1) := ⟨hm, hs, hp, hw, hfile⟩
  clear h hF hm hs hp hw hfile
  go_enter Tryz.func13, Tryz.ntmps13
  go_wp2_with fail
  have hS8 : Bl w w.drew := (Below.refl _ _).drew
  refine wp_region_dyn [0, 1, 2, 3, 4, 5, 6, 7] (Bl w) (Bl w) (by kernel_rfl) hS8 ?_
  clear hS8
  refine wpDyn_take ?vS0 (Bl.stays w) (fun _ h => h) (i := 0) rfl (by kernel_rfl) (by kernel_rfl) (by kernel_rfl) (by kernel_rfl) (by kernel_rfl) (fun _ _ _ h => h) (Gives.value (by rfl) ?yS0) ?rS0
  case yS0 => (intro w' hSw; go_simp; try with_reducible rfl)
  (try simp only [Act.put, List.getElem_toArray, List.getElem_cons_zero, List.getElem_cons_succ, List.setIfInBounds_toArray, List.set_cons_zero, List.set_cons_succ])
  refine wpDyn_take ?vS1 (Bl.stays w) (fun _ h => h) (i := 1) rfl (by kernel_rfl) (by kernel_rfl) (by kernel_rfl) (by kernel_rfl) (by kernel_rfl) (fun _ _ _ h => h) (Gives.value (by rfl) ?yS1) ?rS1
  case yS1 => (intro w' hSw; go_simp; try with_reducible rfl)
  (try simp only [Act.put, List.getElem_toArray, List.getElem_cons_zero, List.getElem_cons_succ, List.setIfInBounds_toArray, List.set_cons_zero, List.set_cons_succ])
  refine wpDyn_take ?vS2 (Bl.stays w) (fun _ h => h) (i := 2) rfl (by kernel_rfl) (by kernel_rfl) (by kernel_rfl) (by kernel_rfl) (by kernel_rfl) (fun _ _ _ h => h) (Gives.value (by rfl) ?yS2) ?rS2
  case yS2 => (intro w' hSw; go_simp; try with_reducible rfl)
  (try simp only [Act.put, List.getElem_toArray, List.getElem_cons_zero, List.getElem_cons_succ, List.setIfInBounds_toArray, List.set_cons_zero, List.set_cons_succ])
  refine wpDyn_take ?vS3 (Bl.stays w) (fun _ h => h) (i := 3) rfl (by kernel_rfl) (by kernel_rfl) (by kernel_rfl) (by kernel_rfl) (by kernel_rfl) (fun _ _ _ h => h) (Gives.value (by rfl) ?yS3) ?rS3
  case yS3 => (intro w' hSw; have hcl := cell_below (Bl.out' hSw) HC0.out; clear hSw; go_simp; try with_reducible rfl)
  (try simp only [Act.put, List.getElem_toArray, List.getElem_cons_zero, List.getElem_cons_succ, List.setIfInBounds_toArray, List.set_cons_zero, List.set_cons_succ])
  refine wpDyn_take ?vS4 (Bl.stays w) (fun _ h => h) (i := 4) rfl (by kernel_rfl) (by kernel_rfl) (by kernel_rfl) (by kernel_rfl) (by kernel_rfl) (fun _ _ _ h => h) (Gives.value (by rfl) ?yS4) ?rS4
  case yS4 => (intro w' hSw; go_simp; try with_reducible rfl)
  (try simp only [Act.put, List.getElem_toArray, List.getElem_cons_zero, List.getElem_cons_succ, List.setIfInBounds_toArray, List.set_cons_zero, List.set_cons_succ])
  refine wpDyn_take ?vS5 (Bl.stays w) (fun _ h => h) (i := 5) rfl (by kernel_rfl) (by kernel_rfl) (by kernel_rfl) (by kernel_rfl) (by kernel_rfl) (fun _ _ _ h => h) (Gives.value (by rfl) ?yS5) ?rS5
  case yS5 => (intro w' hSw; go_simp; try with_reducible rfl)
  (try simp only [Act.put, List.getElem_toArray, List.getElem_cons_zero, List.getElem_cons_succ, List.setIfInBounds_toArray, List.set_cons_zero, List.set_cons_succ])
  refine wpDyn_take ?vS6 (Bl.stays w) (fun _ h => h) (i := 6) rfl (by kernel_rfl) (by kernel_rfl) (by kernel_rfl) (by kernel_rfl) (by kernel_rfl) (fun _ _ _ h => h) (Gives.value (by rfl) ?yS6) ?rS6
  case yS6 => (intro w' hSw; go_simp; try with_reducible rfl)
  (try simp only [Act.put, List.getElem_toArray, List.getElem_cons_zero, List.getElem_cons_succ, List.setIfInBounds_toArray, List.set_cons_zero, List.set_cons_succ])
  refine wpDyn_take ?vS7 (Bl.stays w) (fun _ h => h) (i := 7) rfl (by kernel_rfl) (by kernel_rfl) (by kernel_rfl) (by kernel_rfl) (by kernel_rfl) (fun _ _ _ h => h) (Gives.value (by rfl) ?yS7) ?rS7
  case yS7 => (intro w' hSw; have hcl := cell_below (Bl.out' hSw) HC4.out; clear hSw; go_simp; try with_reducible rfl)
  (try simp only [Act.put, List.getElem_toArray, List.getElem_cons_zero, List.getElem_cons_succ, List.setIfInBounds_toArray, List.set_cons_zero, List.set_cons_succ])
  refine wpDyn_ready (rs := [8]) (by kernel_rfl) (by simp) (AllDyn.cons rfl (fun V hV K hK => ?_) AllDyn.nil)
  rw [if_pos (by rfl)]
  have hXV := HX.out.below (Bl.out' hV)
  have hC := rSync_ok V g m k hXV.rd s HM.out.1 (by have := HM.out.2.1; omega) HM.out.2.2.1 HM.out.2.2.2.1 t.file (by have := HM.out.2.2.2.2; omega)
  refine wp_enterX 37 #[.pointer (some ⟨g, 0, none⟩), .int .i64 t.file] (by first | (go_simp; done) | (go_simp; rfl)) (fun v V' => v = .int .i64 (goneE (m.gone 1)) ∧ ∃ k2, RX V' g gx F (m.syncAt t.file) t k2 p c ∧ Ch (fun j => j = g) w V') (hC.mono fun e V' ⟨h1, h2⟩ => ⟨_, h1, rfl, by
    obtain ⟨k2, h3, h4⟩ := hXV.disk (fun j h => HF.out j (Nat.le_trans (Bl.out' hV).size h)) h2
    exact ⟨k2, h3, (Ch.of_below (Bl.out' hV) _).trans h4⟩⟩) ?_
  rintro v V1 ⟨rfl, hP⟩
  refine hK.out (fun W => ∃ k2, RX W g gx F (m.syncAt t.file) t k2 p c ∧ Ch (fun j => j = g) w W) _ _ (fun _ _ h hb => by obtain ⟨k2, h1, h2⟩ := h; exact ⟨k2, h1.below hb, h2.trans (Ch.of_below hb _)⟩) (no_leanT (by kernel_rfl)) hP ?_
  clear hK K hV hC hP hXV
  (try simp only [Act.put, List.getElem_toArray, List.getElem_cons_zero, List.getElem_cons_succ, List.setIfInBounds_toArray, List.set_cons_zero, List.set_cons_succ])
  obtain ⟨cz, Hcz⟩ : ∃ z, Hid (z = goneE (m.gone 1)) := ⟨_, rfl⟩
  rw [← Hcz.out]
  refine wpDyn_ready (rs := [9]) (by kernel_rfl) (by simp) (AllDyn.cons rfl (fun V hV K hK => ?_) AllDyn.nil)
  rw [if_pos (by rfl)]
  refine wp_value (.int .i64 cz) V (by first | (go_simp; done) | (go_simp; rfl)) ?_
  refine hK.out (fun W => ∃ k2, RX W g gx F (m.syncAt t.file) t k2 p c ∧ Ch (fun j => j = g) w W) _ _ (fun _ _ h hb => by obtain ⟨k2, h1, h2⟩ := h; exact ⟨k2, h1.below hb, h2.trans (Ch.of_below hb _)⟩) (no_leanT (by kernel_rfl)) hV ?_
  clear hK K hV
  (try simp only [Act.put, List.getElem_toArray, List.getElem_cons_zero, List.getElem_cons_succ, List.setIfInBounds_toArray, List.set_cons_zero, List.set_cons_succ])
  refine wpDyn_done (by kernel_rfl) (fun W hW => ?_) _
  obtain ⟨k2, hX2, hc2⟩ := hW
  have HX2 : Hid (RX W g gx F (m.syncAt t.file) t k2 p c ∧ Ch (fun j => j = g) w W) := ⟨hX2, hc2⟩
  clear hX2 hc2
  by_cases hz : cz = 0
  · have HS : Hid (syT m t = (0, m.syncAt t.file, ⟨t.file, t.r.recs.length, t.r⟩)) := by
      show _ = _
      unfold syT
      rw [← Hcz.out, hz, if_pos rfl]
    clear Hcz
    subst hz
    have hA := HX2.out.1.rt.blk
    have c3 := hA.cell 3
    have c5 := hA.cell 5
    have f5 := hA.free 5
    obtain ⟨nr, Hnr⟩ : ∃ z, Hid (z = t.r.recs.length) := ⟨_, rfl⟩
    rw [← Hnr.out] at c3
    obtain ⟨w5, hW5⟩ : ∃ z, W.setCell ⟨gx, 5, none⟩ (.int .i64 (nr : Int)) = z := ⟨_, rfl⟩
    have hA5 : At 87 w5 gx #[.pointer (some ⟨g, 0, none⟩), .int .i64 t.r.gen, .string (strOfNums t.r.base), .slice p t.r.recs.length c, .int .i64 t.file, .int .i64 nr] := by rw [← hW5]; exact hA.set 5 _
    have hc5 : Ch (fun j => j = gx) W w5 := by rw [← hW5]; exact Ch.setCell W ⟨gx, 5, none⟩ _
    have HR : Hid (RSv w w5 g gx F (m.syncAt t.file) ⟨t.file, t.r.recs.length, t.r⟩) := by
      refine ⟨k2, p, c, HX2.out.1.saved hc5 p c (by dsimp only; rw [← Hnr.out] at hA5 ⊢; exact hA5) (HX2.out.1.rt.rcs.ch0 hc5 (fun x e h0 h => (HX2.out.1.rt.fr x e h0).2 h)) HX2.out.1.rt.fr HX2.out.1.fp, (HX2.out.2.mono fun _ _ e => Or.inl e).trans (hc5.mono fun _ _ e => Or.inr e)⟩
    clear hA hA5 hc5
    go_wp2_with fail
    go_ret
    unfold SvQ
    rw [HS.out]
    exact ⟨rfl, HR.out⟩
  · have HS : Hid (syT m t = (cz, m.syncAt t.file, t)) := by
      show _ = _
      unfold syT
      rw [← Hcz.out, if_neg hz]
    have hzb : (cz == 0) = false := beq_false_of_ne hz
    have HR : Hid (RSv w W g gx F (m.syncAt t.file) t) := HX2.out.1.sv HX2.out.2
    clear hz
    go_wp2_with fail
    go_ret
    unfold SvQ
    rw [HS.out]
    exact ⟨rfl, HR.out⟩

set_option maxRecDepth 20000 in
set_option maxHeartbeats 4000000 in
theorem rTPut_any (w : World) (g gx : Nat) (F : Nat → Prop) (hF : ∀ j, w.heap.size ≤ j → F j) (m : PD) (t : TP) (k : Sl) (p : Option Addr) (c : Nat) (h : RX w g gx F m t k p c) (s : Nat) (hm : m.ok s) (hs : s ≤ 1099511627) (hp : m.pre) (hw : m.down = false) (hfile : t.file ≤ 1) (hfew : t.r.recs.length ≤ 1000000) (xs : List Int) (hx : By xs) :
    Calls Tryz.prog 22 #[.pointer (some ⟨gx, 0, none⟩), .string (strOfNums xs)] w (SvQ w g gx F (ptT m t xs)) := by
  have HX : Hid (RX w g gx F m t k p c) := h
  have HF : Hid (∀ j, w.heap.size ≤ j → F j) := hF
  have HM : Hid (m.ok s ∧ s ≤ 1099511627 ∧ m.pre ∧ m.down = false ∧ t.file ≤ 1 ∧ t.r.recs.length ≤ 1000000) := ⟨hm, hs, hp, hw, hfile, hfew⟩
  obtain ⟨gc, w1, hcv, hrd, hb1⟩ := str_conv w xs hx
  have HB1 : Hid (Below w.heap.size w w1) := hb1
  obtain ⟨i0, hi0, hz0, hz1, hz2⟩ := info_parts infoT
  clear h hF hm hs hp hw hfile hfew hb1
  by_cases hl : 8192 < xs.length
  · have HS : Hid (ptT m t xs = (4, m, t)) := if_pos hl
    have gS := rseal_long (some ⟨w.heap.size, 0, none⟩) xs.length gc w1 hl
    have HR : Hid (RSv w w1 g gx F m t) := (HX.out.below HB1.out).sv (Ch.of_below HB1.out _)
    clear hrd hl
    go_enter Tryz.func22, Tryz.ntmps22
    go_wp2_with fail
    refine gS.mono ?_
    rintro e w2 ⟨rfl, hw2⟩
    subst hw2
    clear gS hcv
    go_wp2_with fail
    go_ret
    unfold SvQ
    rw [HS.out]
    exact ⟨rfl, HR.out⟩
  · have gS := rseal_any (some ⟨w.heap.size, 0, none⟩) xs.length gc xs w1 hrd hx (by omega)
    have HP : Hid (ptT m t xs = ((ptM m t.file (sealL xs)).2, (ptM m t.file (sealL xs)).1, if (ptM m t.file (sealL xs)).2 = 0 then ⟨t.file, t.kept, ⟨t.r.gen, t.r.base, t.r.recs ++ [xs]⟩⟩ else t)) := if_neg hl
    have HSL : Hid ((sealL xs).length ≤ 100000) := by have := sealL_len_le (ys := xs) (by omega); show _ ≤ _; omega
    clear hrd hl
    go_enter Tryz.func22, Tryz.ntmps22
    go_wp2_with fail
    refine gS.mono ?_
    rintro e w2 ⟨p2, n2, c2, rfl, hO2, hb2⟩
    clear gS hcv
    have HB2 : Hid (Below w.heap.size w w2) := HB1.out.trans (hb2.mono HB1.out.size)
    have HX2 : Hid (RX w2 g gx F m t k p c) := HX.out.below HB2.out
    have HO2 : Hid (Ow .u8 5 w2 w.heap.size p2 n2 c2 (sealL xs)) := hO2.lower HB1.out.size
    have HN2 : Hid (n2 = (sealL xs).length) := hO2.len.symm
    have HC0 : Hid (w2.cell? ⟨gx, 0, none⟩ = some (.pointer (some ⟨g, 0, none⟩))) := HX2.out.rt.blk.cell 0
    have HC4 : Hid (w2.cell? ⟨gx, 4, none⟩ = some (.int .i64 t.file)) := HX2.out.rt.blk.cell 4
    have HGL : Hid (g < w.heap.size ∧ gx < w.heap.size) := ⟨HX.out.rd.rc.lt, HX.out.rt.blk.lt⟩
    clear hO2 hb2
    go_wp2_with fail
    have hS8 : Bl w2 w2.drew := (Below.refl _ _).drew
    refine wp_region_dyn [0, 1, 2, 3, 4, 5, 6, 7, 8] (Bl w2) (Bl w2) (by kernel_rfl) hS8 ?_
    clear hS8
    refine wpDyn_take ?vP0 (Bl.stays w2) (fun _ h => h) (i := 0) rfl (by kernel_rfl) (by kernel_rfl) (by kernel_rfl) (by kernel_rfl) (by kernel_rfl) (fun _ _ _ h => h) (Gives.value (by rfl) ?yP0) ?rP0
    case yP0 => (intro w' hSw; go_simp; try with_reducible rfl)
    (try simp only [Act.put, List.getElem_toArray, List.getElem_cons_zero, List.getElem_cons_succ, List.setIfInBounds_toArray, List.set_cons_zero, List.set_cons_succ])
    refine wpDyn_take ?vP1 (Bl.stays w2) (fun _ h => h) (i := 1) rfl (by kernel_rfl) (by kernel_rfl) (by kernel_rfl) (by kernel_rfl) (by kernel_rfl) (fun _ _ _ h => h) (Gives.value (by rfl) ?yP1) ?rP1
    case yP1 => (intro w' hSw; go_simp; try with_reducible rfl)
    (try simp only [Act.put, List.getElem_toArray, List.getElem_cons_zero, List.getElem_cons_succ, List.setIfInBounds_toArray, List.set_cons_zero, List.set_cons_succ])
    refine wpDyn_take ?vP2 (Bl.stays w2) (fun _ h => h) (i := 2) rfl (by kernel_rfl) (by kernel_rfl) (by kernel_rfl) (by kernel_rfl) (by kernel_rfl) (fun _ _ _ h => h) (Gives.value (by rfl) ?yP2) ?rP2
    case yP2 => (intro w' hSw; go_simp; try with_reducible rfl)
    (try simp only [Act.put, List.getElem_toArray, List.getElem_cons_zero, List.getElem_cons_succ, List.setIfInBounds_toArray, List.set_cons_zero, List.set_cons_succ])
    refine wpDyn_take ?vP3 (Bl.stays w2) (fun _ h => h) (i := 3) rfl (by kernel_rfl) (by kernel_rfl) (by kernel_rfl) (by kernel_rfl) (by kernel_rfl) (fun _ _ _ h => h) (Gives.value (by rfl) ?yP3) ?rP3
    case yP3 => (intro w' hSw; have hcl := cell_below (Bl.out' hSw) HC0.out; clear hSw; go_simp; try with_reducible rfl)
    (try simp only [Act.put, List.getElem_toArray, List.getElem_cons_zero, List.getElem_cons_succ, List.setIfInBounds_toArray, List.set_cons_zero, List.set_cons_succ])
    refine wpDyn_take ?vP4 (Bl.stays w2) (fun _ h => h) (i := 4) rfl (by kernel_rfl) (by kernel_rfl) (by kernel_rfl) (by kernel_rfl) (by kernel_rfl) (fun _ _ _ h => h) (Gives.value (by rfl) ?yP4) ?rP4
    case yP4 => (intro w' hSw; go_simp; try with_reducible rfl)
    (try simp only [Act.put, List.getElem_toArray, List.getElem_cons_zero, List.getElem_cons_succ, List.setIfInBounds_toArray, List.set_cons_zero, List.set_cons_succ])
    refine wpDyn_take ?vP5 (Bl.stays w2) (fun _ h => h) (i := 5) rfl (by kernel_rfl) (by kernel_rfl) (by kernel_rfl) (by kernel_rfl) (by kernel_rfl) (fun _ _ _ h => h) (Gives.value (by rfl) ?yP5) ?rP5
    case yP5 => (intro w' hSw; go_simp; try with_reducible rfl)
    (try simp only [Act.put, List.getElem_toArray, List.getElem_cons_zero, List.getElem_cons_succ, List.setIfInBounds_toArray, List.set_cons_zero, List.set_cons_succ])
    refine wpDyn_take ?vP6 (Bl.stays w2) (fun _ h => h) (i := 6) rfl (by kernel_rfl) (by kernel_rfl) (by kernel_rfl) (by kernel_rfl) (by kernel_rfl) (fun _ _ _ h => h) (Gives.value (by rfl) ?yP6) ?rP6
    case yP6 => (intro w' hSw; go_simp; try with_reducible rfl)
    (try simp only [Act.put, List.getElem_toArray, List.getElem_cons_zero, List.getElem_cons_succ, List.setIfInBounds_toArray, List.set_cons_zero, List.set_cons_succ])
    refine wpDyn_take ?vP7 (Bl.stays w2) (fun _ h => h) (i := 7) rfl (by kernel_rfl) (by kernel_rfl) (by kernel_rfl) (by kernel_rfl) (by kernel_rfl) (fun _ _ _ h => h) (Gives.value (by rfl) ?yP7) ?rP7
    case yP7 => (intro w' hSw; have hcl := cell_below (Bl.out' hSw) HC4.out; clear hSw; go_simp; try with_reducible rfl)
    (try simp only [Act.put, List.getElem_toArray, List.getElem_cons_zero, List.getElem_cons_succ, List.setIfInBounds_toArray, List.set_cons_zero, List.set_cons_succ])
    refine wpDyn_take ?vP8 (Bl.stays w2) (fun _ h => h) (i := 8) rfl (by kernel_rfl) (by kernel_rfl) (by kernel_rfl) (by kernel_rfl) (by kernel_rfl) (fun _ _ _ h => h) (Gives.value (by rfl) ?yP8) ?rP8
    case yP8 => (intro w' hSw; go_simp; try with_reducible rfl)
    (try simp only [Act.put, List.getElem_toArray, List.getElem_cons_zero, List.getElem_cons_succ, List.setIfInBounds_toArray, List.set_cons_zero, List.set_cons_succ])
    refine wpDyn_ready (rs := [9]) (by kernel_rfl) (by simp) (AllDyn.cons rfl (fun V hV K hK => ?_) AllDyn.nil)
    rw [if_pos (by rfl)]
    have hXV := HX2.out.below (Bl.out' hV)
    have hRV : Rd .u8 V p2 n2 c2 (sealL xs) := HO2.out.rd.below' (Bl.out' hV)
    have hne : ∀ x, p2 = some x → 0 < n2 → x.block ≠ g := fun x e h0 => by have h1 := (HO2.out.ltC' x e h0).1; have h2 := HGL.out; omega
    have hC : Calls Tryz.prog 46 #[.pointer (some ⟨g, 0, none⟩), .int .i64 t.file, .slice p2 n2 c2] V fun e V' => e = .returned (.int .i64 (ptM m t.file (sealL xs)).2) ∧ ∃ k2, RX V' g gx F (ptM m t.file (sealL xs)).1 t k2 p c ∧ Ch (fun j => j = g) w V' := by
      have hVb := HB2.out.trans ((Bl.out' hV).mono HB2.out.size)
      by_cases hu : m.room < m.used + (sealL xs).length
      · have e1 : ptM m t.file (sealL xs) = (m, 7) := if_pos hu
        rw [e1]
        refine (rAppend_full V g m k hXV.rd s HM.out.1 (by have := HM.out.2.1; omega) HM.out.2.2.2.1 t.file (by have := HM.out.2.2.2.2.1; omega) p2 n2 c2 (by have := HSL.out; have := HN2.out; omega) (by rw [HN2.out]; exact hu)).mono ?_
        rintro e V' ⟨rfl, hb⟩
        exact ⟨rfl, k, hXV.below hb, (Ch.of_below hVb _).trans (Ch.of_below hb _)⟩
      · have e1 : ptM m t.file (sealL xs) = (m.putAt t.file (sealL xs), goneE (m.gone (sealL xs).length)) := if_neg hu
        rw [e1]
        refine (rAppend_ok V g m k hXV.rd s HM.out.1 HM.out.2.1 HM.out.2.2.1 HM.out.2.2.2.1 t.file (by have := HM.out.2.2.2.2.1; omega) p2 n2 c2 (sealL xs) hRV hne (by have := HSL.out; have := HN2.out; omega) (by rw [HN2.out]; exact hu)).mono ?_
        rintro e V' ⟨rfl, hA⟩
        obtain ⟨k2, h3, h4⟩ := hXV.disk (fun j h => HF.out j (Nat.le_trans hVb.size h)) hA
        rw [HN2.out]
        exact ⟨rfl, k2, h3, (Ch.of_below hVb _).trans h4⟩
    refine wp_enterX 46 #[.pointer (some ⟨g, 0, none⟩), .int .i64 t.file, .slice p2 n2 c2] (by first | (go_simp; done) | (go_simp; rfl)) (fun v V' => v = .int .i64 (ptM m t.file (sealL xs)).2 ∧ ∃ k2, RX V' g gx F (ptM m t.file (sealL xs)).1 t k2 p c ∧ Ch (fun j => j = g) w V') (hC.mono fun e V' ⟨h1, h2⟩ => ⟨_, h1, rfl, h2⟩) ?_
    rintro v V1 ⟨rfl, hP⟩
    refine hK.out (fun W => ∃ k2, RX W g gx F (ptM m t.file (sealL xs)).1 t k2 p c ∧ Ch (fun j => j = g) w W) _ _ (fun _ _ h hb => by obtain ⟨k2, h1, h2⟩ := h; exact ⟨k2, h1.below hb, h2.trans (Ch.of_below hb _)⟩) (no_leanT (by kernel_rfl)) hP ?_
    clear hK K hV hC hP hXV hRV hne
    (try simp only [Act.put, List.getElem_toArray, List.getElem_cons_zero, List.getElem_cons_succ, List.setIfInBounds_toArray, List.set_cons_zero, List.set_cons_succ])
    obtain ⟨cz, Hcz⟩ : ∃ z, Hid (z = (ptM m t.file (sealL xs)).2) := ⟨_, rfl⟩
    obtain ⟨mz, Hmz⟩ : ∃ z, Hid (z = (ptM m t.file (sealL xs)).1) := ⟨_, rfl⟩
    rw [← Hcz.out, ← Hmz.out] at HP ⊢
    refine wpDyn_ready (rs := [10]) (by kernel_rfl) (by simp) (AllDyn.cons rfl (fun V hV K hK => ?_) AllDyn.nil)
    rw [if_pos (by rfl)]
    refine wp_value (.int .i64 cz) V (by first | (go_simp; done) | (go_simp; rfl)) ?_
    refine hK.out (fun W => ∃ k2, RX W g gx F mz t k2 p c ∧ Ch (fun j => j = g) w W) _ _ (fun _ _ h hb => by obtain ⟨k2, h1, h2⟩ := h; exact ⟨k2, h1.below hb, h2.trans (Ch.of_below hb _)⟩) (no_leanT (by kernel_rfl)) hV ?_
    clear hK K hV
    (try simp only [Act.put, List.getElem_toArray, List.getElem_cons_zero, List.getElem_cons_succ, List.setIfInBounds_toArray, List.set_cons_zero, List.set_cons_succ])
    refine wpDyn_done (by kernel_rfl) (fun W hW => ?_) _
    obtain ⟨k2, hX3, hc3⟩ := hW
    have HX3 : Hid (RX W g gx F mz t k2 p c ∧ Ch (fun j => j = g) w W) := ⟨hX3, hc3⟩
    clear hX3 hc3
    by_cases hz : cz = 0
    · have HS : Hid (ptT m t xs = (0, mz, ⟨t.file, t.kept, ⟨t.r.gen, t.r.base, t.r.recs ++ [xs]⟩⟩)) := by
        show _ = _
        rw [HP.out, hz, if_pos rfl]
      clear HP Hcz
      subst hz
      have hA := HX3.out.1.rt.blk
      have c3 := hA.cell 3
      obtain ⟨nr, Hnr⟩ : ∃ z, Hid (z = t.r.recs.length) := ⟨_, rfl⟩
      rw [← Hnr.out] at c3
      have hnr : nr ≤ 1000000 := by rw [Hnr.out]; exact HM.out.2.2.2.2.2
      have hba := below_alloc W (.cells #[] 9)
      have hpl : RdV (W.alloc (.cells #[] 9)) p nr c (strs t.r.recs) := by rw [Hnr.out]; exact HX3.out.1.rt.rcs.below hba
      have hlt : gx < W.heap.size := hA.lt
      have c3a : (W.alloc (.cells #[] 9)).cell? ⟨gx, 3, none⟩ = some (.slice p nr c) := (cell_below hba (show W.cell? ⟨gx, 3, none⟩ = some (.slice p nr c) from c3))
      clear hA c3
      go_wp2_with (refine wpList_appVs _ rfl (.tmp 29) (.tmp 33) 49 rfl 9 i0 (.string ByteArray.empty) 16 Tryz.underlying49 hi0 hz0 hz1 hz2 rfl W.heap.size (some ⟨W.heap.size, 0, none⟩) 0 0 [] rfl (OwV.empty _ _ _ _) p nr c (strs t.r.recs) rfl hpl (strs_one t.r.recs) ?b1 ?b2 ?b3 ?_)
      case b1 => omega
      case b2 => unfold maxLen; omega
      case b3 => simp
      intro p6 c6 w6 hO6 hb6
      have hb06 : Below W.heap.size W w6 := hba.trans hb6
      have hO6' : OwV 9 w6 W.heap.size p6 nr c6 (strs t.r.recs) := by simpa using hO6
      have hc1 : (w6.alloc (.cells #[.string (strOfNums xs)] 9)).cell? ⟨w6.heap.size, 0, none⟩ = some (.string (strOfNums xs)) := by simp
      have hsz := hb06.size
      clear hO6 hpl c3a hb6 hba
      go_wp2_with (refine wpList_appV _ rfl (.tmp 34) (.tmp 36) 49 rfl 9 i0 (.string ByteArray.empty) 16 Tryz.underlying49 hi0 hz0 hz1 hz2 rfl W.heap.size p6 nr c6 _ rfl (hO6'.below (below_alloc _ _)) _ _ _ _ rfl hc1 rfl ?b4 ?b5 ?b6 ?_)
      case b4 => omega
      case b5 => unfold maxLen; omega
      case b6 => (simp; omega)
      intro p7 c7 w7 hO7 hb7 _
      have hb07 : Below W.heap.size W w7 := (hb06.alloc hb06.size (.cells #[.string (strOfNums xs)] 9)).trans hb7
      have hA7 := HX3.out.1.rt.blk.below hb07
      have c37 := hA7.cell 3
      have f37 := hA7.free 3
      obtain ⟨w8, hW8⟩ : ∃ z, w7.setCell ⟨gx, 3, none⟩ (.slice p7 (nr + 1) c7) = z := ⟨_, rfl⟩
      have hA8 : At 87 w8 gx #[.pointer (some ⟨g, 0, none⟩), .int .i64 t.r.gen, .string (strOfNums t.r.base), .slice p7 (nr + 1) c7, .int .i64 t.file, .int .i64 t.kept] := by rw [← hW8]; exact hA7.set 3 _
      have hc8 : Ch (fun j => j = gx) w7 w8 := by rw [← hW8]; exact Ch.setCell w7 ⟨gx, 3, none⟩ _
      have hfr : ∀ x, p7 = some x → 0 < nr + 1 → W.heap.size ≤ x.block := fun x e h0 => (hO7.ltC x e (Nat.lt_of_lt_of_le h0 hO7.cap)).1
      have es : strs (t.r.recs ++ [xs]) = strs t.r.recs ++ [.string (strOfNums xs)] := by unfold strs; rw [List.map_append]; rfl
      have el : (t.r.recs ++ [xs]).length = nr + 1 := by rw [List.length_append, Hnr.out]; rfl
      have HR : Hid (RSv w w8 g gx F mz ⟨t.file, t.kept, ⟨t.r.gen, t.r.base, t.r.recs ++ [xs]⟩⟩) := by
        refine ⟨k2, p7, c7, HX3.out.1.saved ((Ch.of_below hb07 _).trans hc8) p7 c7 (by dsimp only; rw [el]; exact hA8) (by dsimp only; rw [el, es]; exact hO7.rd.ch0 hc8 (fun x e h0 h => by have := hfr x e h0; omega)) (by
          dsimp only
          rw [el]
          intro x e h0
          have h1 := hfr x e h0
          have h2 := HX3.out.1.rd.rc.lt
          exact ⟨by omega, by omega⟩) (by
          dsimp only
          rw [el]
          exact fun x e h0 => HF.out _ (Nat.le_trans HX3.out.2.size (hfr x e h0))), (HX3.out.2.mono fun _ _ e => Or.inl e).trans ((Ch.of_below hb07 _).trans (hc8.mono fun _ _ e => Or.inr e))⟩
      clear hA7 hA8 hc8 hfr hO7 hb7 hb07 hO6' hb06 es el
      go_wp2_with fail
      go_ret
      unfold SvQ
      rw [HS.out]
      exact ⟨rfl, HR.out⟩
    · have HS : Hid (ptT m t xs = (cz, mz, t)) := by
        show _ = _
        rw [HP.out, if_neg hz]
      have hzb : (cz == 0) = false := beq_false_of_ne hz
      have HR : Hid (RSv w W g gx F mz t) := HX3.out.1.sv HX3.out.2
      clear hz
      go_wp2_with fail
      go_ret
      unfold SvQ
      rw [HS.out]
      exact ⟨rfl, HR.out⟩

end Go.Proofs.YtpjhadaiodnnaaaGreat.M
end

section
namespace Go.Proofs.YtpjhadaiodnnaaaGreat.M
open Go.ChangeShapes Go.WideShapes Go.ChangeAt Go.RowKit
set_option linter.unusedSimpArgs false

/-- The mark of a law's own blocks. -/
def lawM : Nat := 2000

/-- All blocks from lo to hi are marked as the law's. -/
def lawO (own : Nat → Nat) (lo hi : Nat) : Nat → Nat := fun k => if lo ≤ k ∧ k < hi then lawM else own k

theorem lawO_low {own : Nat → Nat} {lo hi k : Nat} (h : k < lo) : lawO own lo hi k = own k := if_neg (by omega)
theorem lawO_in {own : Nat → Nat} {lo hi k : Nat} (h : lo ≤ k) (h2 : k < hi) : lawO own lo hi k = lawM := if_pos ⟨h, h2⟩

theorem law_mark {a i : Nat} (ha : a ≤ 100) (hi : i < 8) : lawM ≠ mark a i := by unfold lawM mark; omega

theorem DA.lawed {w w' : World} {B : Nat} {own : Nat → Nat} {a g : Nat} {d : Dk} {m : PD} (h : DA w B own a g d m) (hb : Below w.heap.size w w') : DA w' B (lawO own w.heap.size w'.heap.size) a g d m := by
  have hgl : g < w.heap.size := h.dc.lt
  refine (h.below hb).reown (fun k e => ?_) ?_ (fun x e => ?_) (fun k hk => ?_)
  · unfold lawO
    rw [if_neg]
    intro hk
    have h0 := h.fr k hk.1
    rw [h0] at e
    unfold mark at e
    omega
  · rw [lawO_low hgl]; exact h.og
  · rw [lawO_low (h.ok x e).2.2]; exact (h.ok x e).1
  · unfold lawO
    rw [if_neg (by omega)]
    exact h.fr k (Nat.le_trans hb.size hk)

theorem DS.lawed {w w' : World} {L a g : Nat} {own : Nat → Nat} {d : Dk} {m : PD} (h : DS w L a g own d m) (hb : Below w.heap.size w w') : DS w' L a g (lawO own w.heap.size w'.heap.size) d m :=
  ⟨h.da.lawed hb, Nat.le_trans h.lw hb.size, h.lg, fun k hk => by rw [lawO_low (Nat.lt_of_lt_of_le hk h.lw)]; exact h.low k hk⟩

/-- What was made since is the law's. -/
theorem TSx.law {w w' : World} {L a g gt : Nat} {own : Nat → Nat} {m : PD} {t : TP} (h : TSx w L a g gt own m t) (hb : Below w.heap.size w w') : TSx w' L a g gt (lawO own w.heap.size w'.heap.size) m t := by
  obtain ⟨d, pb, nb, cb, pr, cr, vs, Bv, h1, h2, h3, h4, h5⟩ := h
  have hO : TO w' (lawO own w.heap.size w'.heap.size) Bv g gt t pb nb cb pr cr vs := h4.ch (Ch.of_below hb (fun _ => False)) (fun _ _ _ h => h) (fun k hk e => (lawO_low hk).trans e)
  exact ⟨d, pb, nb, cb, pr, cr, vs, Bv, h1.lawed hb, hO.tb (h2.blk.below hb) ⟨(lawO_low h2.blk.lt).trans h2.fg.1, h2.fg.2⟩, h3, hO, Nat.le_trans h5 hb.size⟩

/-- What is no block of a disk, a tape or what they made: the law's blocks, too. -/
def Fg2 (own : Nat → Nat) (g k : Nat) : Prop := (own k = 0 ∨ own k = lawM) ∧ k ≠ g

/-- A disk, where only the law's blocks change. -/
theorem DS.ch2 {S : Nat → Prop} {w w' : World} {L a g : Nat} {own : Nat → Nat} {d : Dk} {m : PD} (ha : a ≤ 100) (h : DS w L a g own d m) (hc : Ch S w w') (hs : ∀ k, S k → own k = lawM) : DS w' L a g own d m := by
  refine ⟨h.da.ch hc (fun e => ?_) (fun i k hi e e2 => ?_) (fun x e e2 => ?_) (fun _ _ => rfl) (fun k hk => h.da.fr k (Nat.le_trans hc.size hk)), Nat.le_trans h.lw hc.size, h.lg, h.low⟩
  · have := hs g e; rw [h.da.og] at this; cases this
  · exact law_mark ha hi (by rw [← hs k e2, e])
  · have h1 := (h.da.ok x e).1; rw [hs _ e2] at h1; cases h1

/-- A tape and its disk, where only the law's blocks change. -/
theorem TSx.ch2 {S : Nat → Prop} {w w' : World} {L a g gt : Nat} {own : Nat → Nat} {m : PD} {t : TP} (ha : a ≤ 100) (h : TSx w L a g gt own m t) (hc : Ch S w w') (hs : ∀ k, S k → own k = lawM) : TSx w' L a g gt own m t := by
  obtain ⟨d, pb, nb, cb, pr, cr, vs, Bv, h1, h2, h3, h4, h5⟩ := h
  have hfar : ∀ k, Fre own g k → ¬ S k := fun k hf e => by have := hs k e; rw [hf.1] at this; cases this
  have hO : TO w' own Bv g gt t pb nb cb pr cr vs := h4.ch hc (fun k hf _ => hfar k hf) (fun _ _ e => e)
  exact ⟨d, pb, nb, cb, pr, cr, vs, Bv, h1.ch2 ha hc hs, hO.tb (h2.blk.ch hc (hfar gt h2.fg)) h2.fg, h3, hO, Nat.le_trans h5 hc.size⟩

theorem TSx.new2 {w : World} {L a g gt : Nat} {own : Nat → Nat} {m : PD} {t : TP} (h : TSx w L a g gt own m t) {k : Nat} (hk : w.heap.size ≤ k) : Fg2 own g k := ⟨Or.inl (h.new hk).1, (h.new hk).2⟩

theorem TSx.old2 {w : World} {L a g gt : Nat} {own : Nat → Nat} {m : PD} {t : TP} (h : TSx w L a g gt own m t) {k : Nat} (hk : k < L) : Fg2 own g k := ⟨Or.inl (h.old hk).1, (h.old hk).2⟩

theorem TSx.lawB {w : World} {L a g gt : Nat} {own : Nat → Nat} {m : PD} {t : TP} (h : TSx w L a g gt own m t) {k : Nat} (hk : own k = lawM) : Fg2 own g k := by
  obtain ⟨d, pb, nb, cb, pr, cr, vs, Bv, h1, h2, h3, h4, h5⟩ := h
  exact ⟨Or.inr hk, fun e => by rw [e, h1.da.og] at hk; cases hk⟩

theorem mine_no2 {own : Nat → Nat} {a g gt i k : Nat} (ha : a ≤ 100) (hi : i < 8) (hf : Fre own g gt) (e : k = g ∨ k = gt ∨ own k = mark a i) : ¬ Fg2 own g k := fun h => by
  rcases e with e | e | e
  · exact h.2 e
  · rw [e] at h
    have h1 := hf.1
    rcases h.1 with h2 | h2 <;> rw [h2] at h1 <;> cases h1
  · rcases h.1 with h2 | h2
    · rw [h2] at e; unfold mark at e; omega
    · rw [h2] at e; exact law_mark ha hi e

/-- Put of a tape. -/
theorem Put_S2 (w0 w : World) (L a g gt : Nat) (own : Nat → Nat) (m : PD) (t : TP) (s : Nat) (ha : a ≤ 100) (hT : TSx w0 L a g gt own m t) (hbw : Below w0.heap.size w0 w) (hm : Fit m s) (hs : s ≤ 274877906944) (hfile : t.file ≤ 1) (hcount : t.r.recs.length < 1000000)
    (pa : Option Addr) (na ca : Nat) (xs : List Int) (hpa : Rd .u8 w pa na ca xs) (hby : By xs) (hda : ∀ x, pa = some x → 0 < na → Fg2 own g x.block) :
    Calls Tryz.prog 21 #[.pointer (some ⟨gt, 0, none⟩), .slice pa na ca] w fun e w' => e = .returned (.int .i64 (ptT m t xs).1) ∧ ∃ own2, TSx w' L a g gt own2 (ptT m t xs).2.1 (ptT m t xs).2.2 ∧ (∀ k, k < w.heap.size → own2 k = own k) ∧ Ch (fun k => ¬ Fg2 own g k) w w' := by
  have hl := hpa.len
  have hT1 := hT.below hbw
  by_cases hna : 8192 < na
  · have e1 : ptT m t xs = (4, m, t) := by unfold ptT; rw [if_pos (by omega)]
    rw [e1]
    refine (TPut_long w gt g hT1.o.blk.1 pa na ca hna).mono ?_
    rintro e w' ⟨rfl, hb⟩
    exact ⟨rfl, own, hT1.below hb, fun _ _ => rfl, Ch.of_below hb _⟩
  · have e1 : ptT m t xs = ((ptM m t.file (sealL xs)).2, (ptM m t.file (sealL xs)).1, if (ptM m t.file (sealL xs)).2 = 0 then ⟨t.file, t.kept, ⟨t.r.gen, t.r.base, t.r.recs ++ [xs]⟩⟩ else t) := by unfold ptT; rw [if_neg (by omega)]
    rw [e1]
    obtain ⟨d, pb, nb, cb, pr, cr, vs, Bv, hD0, hB0, hgt, hO0, hBv0⟩ := hT
    have hD := hD0.below hbw
    have hgl : g < w0.heap.size := hD0.da.dc.lt
    refine (TPut_any w L own a g d m ha hD.da s hm hs hD.lw gt t pb nb cb pr cr vs (hB0.below hbw) hfile Bv (Nat.le_trans hBv0 hbw.size) (hO0.below hbw) hcount pa na ca xs hpa hby (by omega) (fun x e h0 => ?_)).mono ?_
    · have h1 := hda x e h0
      refine ⟨fun e2 => ?_, h1.2⟩
      rcases h1.1 with h2 | h2
      · rw [h2] at e2; unfold mark at e2; omega
      · rw [h2] at e2; exact law_mark ha (by omega) e2
    · rintro e w' ⟨rfl, own2, d2, h1, h4, h5, hh⟩
      have hBel : Ch (fun k => ¬ Fg2 own g k) w w' := h5.mono fun k hk e => by
        rcases e with e | e | e | ⟨x, e, hc, ex⟩
        · exact mine_no2 (i := 0) (a := 0) (by decide) (by decide) hB0.fg (Or.inl e)
        · exact mine_no2 (i := 0) (a := 0) (by decide) (by decide) hB0.fg (Or.inr (Or.inl e))
        · exact mine_no2 ha (show t.file < 8 by omega) hB0.fg (Or.inr (Or.inr e))
        · have h6 := (hO0.fv x e hc).1.1
          rw [← ex] at h6
          intro h7
          rcases h7.1 with h8 | h8 <;> rw [h8] at h6 <;> cases h6
      have hBv : Bv ≤ w'.heap.size := Nat.le_trans (Nat.le_trans hBv0 hbw.size) h5.size
      rcases hh with ⟨hz, pr2, cr2, q, c, h2, h3⟩ | ⟨hz, h2, h3⟩
      · rw [if_pos hz]
        exact ⟨rfl, own2, ⟨d2, pb, nb, cb, pr2, cr2, vs ++ [.slice q na c], Bv, hD.mv h1 h5.size h4, h2, hgt, h3, hBv⟩, h4, hBel⟩
      · rw [if_neg hz]
        exact ⟨rfl, own2, ⟨d2, pb, nb, cb, pr, cr, vs, Bv, hD.mv h1 h5.size h4, h2, hgt, h3, hBv⟩, h4, hBel⟩

/-- Sync of a tape. -/
theorem Sync_S2 (w : World) (L a g gt : Nat) (own : Nat → Nat) (m : PD) (t : TP) (s : Nat) (ha : a ≤ 100) (hT : TSx w L a g gt own m t) (hm : Fit m s) (hs : s ≤ 274877906944) (hfile : t.file ≤ 1) :
    Calls Tryz.prog 12 #[.pointer (some ⟨gt, 0, none⟩)] w fun e w' => e = .returned (.int .i64 (syT m t).1) ∧ ∃ own2, TSx w' L a g gt own2 (syT m t).2.1 (syT m t).2.2 ∧ (∀ k, k < w.heap.size → own2 k = own k) ∧ Ch (fun k => ¬ Fg2 own g k) w w' := by
  obtain ⟨d, pb, nb, cb, pr, cr, vs, Bv, hD, hB, hgt, hO, hBv⟩ := hT
  refine (TSync_any w L own a g d m ha hD.da s hm hs gt t pb nb cb pr cr vs hB hfile).mono ?_
  rintro e w' ⟨rfl, own2, d2, h1, h3, h4, hh⟩
  have hO2 : TO w' own2 Bv g gt t pb nb cb pr cr vs := hO.ch h4 (fun k hf hn e => by
    rcases e with e | e | e
    · exact hf.2 e
    · exact hn e
    · exact far_mark ha (show t.file < 8 by omega) (by rw [← e, hf.1])) (fun k hk e => (h3 k hk).trans e)
  have hBel : Ch (fun k => ¬ Fg2 own g k) w w' := h4.mono fun k _ e => mine_no2 ha (show t.file < 8 by omega) hB.fg e
  unfold syT
  rcases hh with ⟨hz, h2⟩ | ⟨hz, h2⟩
  · rw [if_pos hz]
    exact ⟨rfl, own2, ⟨d2, pb, nb, cb, pr, cr, vs, Bv, hD.mv h1 h4.size h3, h2, hgt, ⟨hO2.bas, hO2.fb, hO2.rcs, hO2.fv, hO2.sls, hO2.fs⟩, Nat.le_trans hBv h4.size⟩, h3, hBel⟩
  · rw [if_neg hz]
    exact ⟨rfl, own2, ⟨d2, pb, nb, cb, pr, cr, vs, Bv, hD.mv h1 h4.size h3, h2, hgt, hO2, Nat.le_trans hBv h4.size⟩, h3, hBel⟩

/-- Save of a tape. -/
theorem Save_T2 (w : World) (L a g gt : Nat) (own : Nat → Nat) (m : PD) (t : TP) (s : Nat) (ha : a ≤ 100) (hT : TSx w L a g gt own m t) (hm : Fit m s) (hs : s ≤ 274877906944) (hfile : t.file ≤ 1) (hgen : 0 ≤ t.r.gen)
    (pa : Option Addr) (na ca : Nat) (base : List Int) (hpa : Rd .u8 w pa na ca base) (hby : By base) (pl : Option Addr) (nl cl : Nat) (us : List Value) (recs : List (List Int)) (hpl : RdV w pl nl cl us) (hus : Sls w us recs) (hnl : nl = recs.length) (hfew : nl ≤ 1000000) (hrec : ∀ i, i < recs.length → By (recs.getD i [])) :
    Calls Tryz.prog 14 #[.pointer (some ⟨gt, 0, none⟩), .slice pa na ca, .slice pl nl cl] w fun e w' => e = .returned (.int .i64 (svT m t base recs).1) ∧ ∃ own2, TSx w' L a g gt own2 (svT m t base recs).2.1 (svT m t base recs).2.2 ∧ (∀ k, k < w.heap.size → own2 k = own k) ∧ Ch (fun k => ¬ Fg2 own g k) w w' := by
  have hl := hpa.len
  by_cases h40 : 1099511627776 ≤ t.r.gen
  · have e1 : svT m t base recs = (5, m, t) := by unfold svT; rw [if_pos h40]
    rw [e1]
    refine (Save_range w gt g t.r.gen hT.o.blk.1 hT.o.blk.2 h40 pa na ca pl nl cl).mono ?_
    rintro e w' ⟨rfl, rfl⟩
    exact ⟨rfl, own, hT, fun _ _ => rfl, Ch.refl _ _⟩
  · by_cases hfit : fitsR base.length recs = false
    · have e1 : svT m t base recs = (4, m, t) := by unfold svT; rw [if_neg h40, if_pos hfit]
      rw [e1]
      refine (Save_long w gt g t.r.gen hT.o.blk.1 hT.o.blk.2 (by omega) pa na ca pl nl cl us recs hpl hus hnl hfew (by rw [← hl]; exact hfit)).mono ?_
      rintro e w' ⟨rfl, hb⟩
      exact ⟨rfl, own, hT.below hb, fun _ _ => rfl, Ch.of_below hb _⟩
    · have e1 : svT m t base recs = ((wrM m (1 - t.file) (sealR ⟨t.r.gen + 1, base, recs⟩)).2, (wrM m (1 - t.file) (sealR ⟨t.r.gen + 1, base, recs⟩)).1, if (wrM m (1 - t.file) (sealR ⟨t.r.gen + 1, base, recs⟩)).2 = 0 then ⟨1 - t.file, recs.length, ⟨t.r.gen + 1, base, recs⟩⟩ else t) := by unfold svT; rw [if_neg h40, if_neg hfit]
      rw [e1]
      obtain ⟨hf1, hf2⟩ := fits_yes hfit
      obtain ⟨d, pb, nb, cb, pr, cr, vs, Bv, hD, hB, hgt, hO, hBv⟩ := hT
      refine (Save_any w L own a g d m ha hD.da s hm hs hD.lw gt t pb nb cb pr cr vs hB hfile ⟨hgen, by omega⟩ pa na ca base hpa hby (by omega) pl nl cl us recs hpl hus hnl hfew (fun i hi => ⟨hrec i hi, hf2 i hi⟩)).mono ?_
      rintro e w' ⟨rfl, own2, d2, h1, h3, h4, hh⟩
      have hBel : Ch (fun k => ¬ Fg2 own g k) w w' := h4.mono fun k _ e => mine_no2 ha (show 1 - t.file < 8 by omega) hB.fg e
      rcases hh with ⟨hz, qb, mb, db, qr, dr, us2, h2, h5⟩ | ⟨hz, h2⟩
      · rw [if_pos hz, ← hnl]
        exact ⟨rfl, own2, ⟨d2, qb, mb, db, qr, dr, us2, w.heap.size, hD.mv h1 h4.size h3, h2, hgt, h5, h4.size⟩, h3, hBel⟩
      · rw [if_neg hz]
        have hO2 : TO w' own2 Bv g gt t pb nb cb pr cr vs := hO.ch h4 (fun k hf hn e => by
          rcases e with e | e | e
          · exact hf.2 e
          · exact hn e
          · exact far_mark ha (show 1 - t.file < 8 by omega) (by rw [← e, hf.1])) (fun k hk e => (h3 k hk).trans e)
        exact ⟨rfl, own2, ⟨d2, pb, nb, cb, pr, cr, vs, Bv, hD.mv h1 h4.size h3, h2, hgt, hO2, Nat.le_trans hBv h4.size⟩, h3, hBel⟩

/-- Open of a tape. -/
theorem Open_S2 (w : World) (L a g : Nat) (own : Nat → Nat) (m : PD) (s : Nat) (ha : a ≤ 100) (hD : ∃ d, DS w L a g own d m) (hm : Fit m s) (hs : s ≤ 274877906944) (hBy : ∀ i, i < 2 → By (m.f i).told) (hf : (cnt m).1 ≤ 1) (hr : (cnt m).2.1.fit) (hfew : (cnt m).2.1.recs.length ≤ 1000000) :
    Calls Tryz.prog 8 #[.pointer (some ⟨g, 0, none⟩)] w fun e w' => ∃ gt, e = .returned (.tuple #[opT (opM m).1 gt, .int .i64 (opM m).1]) ∧ ∃ own2, TSx w' L a g gt own2 (opM m).2.1 (opM m).2.2 ∧ (∀ k, k < w.heap.size → own2 k = own k) ∧ Ch (fun k => ¬ Fg2 own g k) w w' := by
  obtain ⟨d, hS⟩ := hD
  have hgl : g < w.heap.size := hS.da.dc.lt
  have hX : ∀ w1 gt pb nb cb pr cr vs, OI w w1 g gt (cnt m).1 (cnt m).2.1.recs.length (cnt m).2.1 pb nb cb pr cr vs → TSx w1 L a g gt (farO own w.heap.size w1.heap.size) m ⟨(cnt m).1, (cnt m).2.1.recs.length, (cnt m).2.1⟩ := fun w1 gt pb nb cb pr cr vs hI =>
    ⟨d, pb, nb, cb, pr, cr, vs, w.heap.size, hS.marked hI.hb, hI.tb hgl, by have := hI.ge; have := hS.lw; omega, hI.to hgl, hI.hb.size⟩
  have hfw : m.few := hm.ok.few (by omega)
  refine (TOpen_gen w g (fun i => (m.f i).told) (fun wr hb i hi => Read_O wr L own a g d m (hS.da.below hb) hm.ok.r0 hm.up hfw i (by omega)) hBy (fun i hi => Nat.le_trans (hfw.told i (by omega)) (by decide)) (fun c gt w' => c = (svT m ⟨(cnt m).1, (cnt m).2.1.recs.length, (cnt m).2.1⟩ (cnt m).2.1.base (cnt m).2.1.recs).1 ∧ ∃ own2, TSx w' L a g gt own2 (svT m ⟨(cnt m).1, (cnt m).2.1.recs.length, (cnt m).2.1⟩ (cnt m).2.1.base (cnt m).2.1.recs).2.1 (svT m ⟨(cnt m).1, (cnt m).2.1.recs.length, (cnt m).2.1⟩ (cnt m).2.1.base (cnt m).2.1.recs).2.2 ∧ (∀ k, k < w.heap.size → own2 k = own k) ∧ Ch (fun k => ¬ Fg2 own g k) w w') (fun c gt W W' h hb => ⟨h.1, by
      obtain ⟨own2, h1, h2, h3⟩ := h.2
      exact ⟨own2, h1.below hb, h2, h3.trans (Ch.of_below hb _)⟩⟩) ?_).mono ?_
  · intro hb w1 gt pb nb cb pr cr vs hI
    refine (Save_T2 w1 L a g gt _ m ⟨(cnt m).1, (cnt m).2.1.recs.length, (cnt m).2.1⟩ s ha (hX _ _ _ _ _ _ _ _ hI) hm hs hf hr.gen pb nb cb _ hI.bas.rd hr.base.2 pr _ cr vs _ hI.rcs.rd hI.sls.sls rfl hfew (fun i hi => (hr.recs i hi).1)).mono ?_
    rintro e w' ⟨rfl, own2, h1, h2, h3⟩
    refine ⟨_, rfl, rfl, own2, h1, fun k hk => (h2 k (Nat.lt_of_lt_of_le hk hI.hb.size)).trans (farO_low hk), (Ch.of_below hI.hb (fun k => ¬ Fg2 own g k)).then h3 (fun k hk e => fun h4 => e ⟨h4.1.imp (fun h => (farO_low hk).trans h) (fun h => (farO_low hk).trans h), h4.2⟩)⟩
  · rintro e w' (⟨hb, gt, pb, nb, cb, pr, cr, vs, rfl, hI⟩ | ⟨hb, c, gt, rfl, rfl, own2, h1, h2, h3⟩)
    · have e1 : opM m = (0, m, ⟨(cnt m).1, (cnt m).2.1.recs.length, (cnt m).2.1⟩) := by unfold opM; rw [if_pos (show (cnt m).2.2 = true from hb)]
      rw [e1]
      exact ⟨gt, rfl, _, hX _ _ _ _ _ _ _ _ hI, fun k hk => farO_low hk, Ch.of_below hI.hb _⟩
    · have e1 : opM m = svT m ⟨(cnt m).1, (cnt m).2.1.recs.length, (cnt m).2.1⟩ (cnt m).2.1.base (cnt m).2.1.recs := by unfold opM; rw [if_neg (show ¬ (cnt m).2.2 = true by have : (cnt m).2.2 = false := hb; rw [this]; decide)]
      rw [e1]
      exact ⟨gt, rfl, own2, h1, h2, h3⟩

theorem Fg2.to {own own2 : Nat → Nat} {g k n : Nat} (h : Fg2 own g k) (hk : k < n) (ho : ∀ k, k < n → own2 k = own k) : Fg2 own2 g k := ⟨by rw [ho k hk]; exact h.1, h.2⟩

theorem Ch.lowB2 {w w' : World} {L a g gt : Nat} {own : Nat → Nat} {m : PD} {t : TP} (h : Ch (fun k => ¬ Fg2 own g k) w w') (hT : TSx w L a g gt own m t) : Below L w w' := h.lowL hT.o.lw fun _ hk e => e (hT.old2 hk)

end Go.Proofs.YtpjhadaiodnnaaaGreat.M
end

section
namespace Go.Proofs.YtpjhadaiodnnaaaGreat.M
open Go.ChangeShapes Go.WideShapes Go.ChangeAt Go.RowKit
set_option linter.unusedSimpArgs false

/-- Marks of some new blocks. -/
def mkO (own : Nat → Nat) (M : Nat → Bool) : Nat → Nat := fun k => if M k = true then lawM else own k

theorem mkO_no {own : Nat → Nat} {M : Nat → Bool} {k : Nat} (h : M k = false) : mkO own M k = own k := if_neg (by rw [h]; decide)
theorem mkO_yes {own : Nat → Nat} {M : Nat → Bool} {k : Nat} (h : M k = true) : mkO own M k = lawM := if_pos h

/-- What the law does to its own blocks leaves the tape; some of what is new is marked as the law's. -/
theorem TSx.law3 {w w' : World} {L a g gt : Nat} {own : Nat → Nat} {m : PD} {t : TP} (ha : a ≤ 100) (h : TSx w L a g gt own m t) {S : Nat → Prop} (hc : Ch S w w') (hs : ∀ k, S k → own k = lawM) (M : Nat → Bool) (hM : ∀ k, M k = true → w.heap.size ≤ k ∧ k < w'.heap.size) : TSx w' L a g gt (mkO own M) m t := by
  obtain ⟨d, pb, nb, cb, pr, cr, vs, Bv, h1, h2, h3, h4, h5⟩ := h
  have hfar : ∀ k, Fre own g k → ¬ S k := fun k hf e => by have := hs k e; rw [hf.1] at this; cases this
  have hD : DS w' L a g own d m := h1.ch2 ha hc hs
  have hgl : g < w.heap.size := h1.da.dc.lt
  have hlow : ∀ k, k < w.heap.size → mkO own M k = own k := fun k hk => mkO_no (by
    cases e : M k with
    | false => rfl
    | true => have := (hM k e).1; omega)
  have hD2 : DA w' L (mkO own M) a g d m := by
    refine hD.da.reown (fun k e => ?_) ?_ (fun x e => ?_) (fun k hk => ?_)
    · refine mkO_no ?_
      cases e2 : M k with
      | false => rfl
      | true =>
        have h0 := h1.da.fr k (hM k e2).1
        rw [h0] at e
        unfold mark at e
        omega
    · rw [hlow g hgl]; exact h1.da.og
    · rw [hlow _ (h1.da.ok x e).2.2]; exact (h1.da.ok x e).1
    · rw [mkO_no (by
        cases e2 : M k with
        | false => rfl
        | true => have := (hM k e2).2; omega)]
      exact h1.da.fr k (Nat.le_trans hc.size hk)
  have hO : TO w' (mkO own M) Bv g gt t pb nb cb pr cr vs := h4.ch hc (fun k hf _ => hfar k hf) (fun k hk e => (hlow k hk).trans e)
  exact ⟨d, pb, nb, cb, pr, cr, vs, Bv, ⟨hD2, hD.lw, hD.lg, fun k hk => by rw [hlow k (Nat.lt_of_lt_of_le hk h1.lw)]; exact h1.low k hk⟩, hO.tb (h2.blk.ch hc (hfar gt h2.fg)) ⟨(hlow gt h2.blk.lt).trans h2.fg.1, h2.fg.2⟩, h3, hO, Nat.le_trans h5 hc.size⟩

theorem RX.ch {S F : Nat → Prop} {w w' : World} {g gx : Nat} {m : PD} {t : TP} {k : Sl} {p : Option Addr} {c : Nat} (h : RX w g gx F m t k p c) (hc : Ch S w w') (hg : ¬ S g) (hx : ¬ S gx) (hs : ∀ j, F j → ¬ S j) : RX w' g gx F m t k p c :=
  ⟨h.rd.ch hc hg (fun x e h0 => hs _ (h.fk x e h0)), h.rt.ch hc hx (fun x e h0 => hs _ (h.fp x e h0)), h.kx, h.fk, h.fp⟩

theorem RX.reF {F F' : Nat → Prop} {w : World} {g gx : Nat} {m : PD} {t : TP} {k : Sl} {p : Option Addr} {c : Nat} (h : RX w g gx F m t k p c) (hF : ∀ j, j < w.heap.size → F j → F' j) : RX w g gx F' m t k p c :=
  ⟨h.rd, h.rt, h.kx, fun x e h0 => hF _ (h.rd.keep.ltb x e h0) (h.fk x e h0), fun x e h0 => hF _ (h.rt.rcs.ltb x e h0) (h.fp x e h0)⟩

/-- Both tapes. -/
structure PB (w3 W : World) (L g gt gy gx : Nat) (own : Nat → Nat) (m : PD) (t : TP) (m2 : PD) (t2 : TP) : Prop where
  ts : TSx W L 0 g gt own m t
  rx : ∃ k p c, RX W gy gx (Fgn own g) m2 t2 k p c
  my : own gy = lawM
  mx : own gx = lawM
  ly : L ≤ gy
  lx : L ≤ gx
  bel : Below L w3 W

theorem TSx.ne {w : World} {L a g gt : Nat} {own : Nat → Nat} {m : PD} {t : TP} (h : TSx w L a g gt own m t) {k : Nat} (hk : own k = lawM) : k ≠ g := fun e => by
  obtain ⟨d, pb, nb, cb, pr, cr, vs, Bv, h1, _⟩ := h
  rw [e, h1.da.og] at hk
  cases hk

theorem PB.below {w3 W W' : World} {L g gt gy gx : Nat} {own : Nat → Nat} {m : PD} {t : TP} {m2 : PD} {t2 : TP} (h : PB w3 W L g gt gy gx own m t m2 t2) (hb : Below W.heap.size W W') : PB w3 W' L g gt gy gx own m t m2 t2 := by
  obtain ⟨k, p, c, h1⟩ := h.rx
  exact ⟨h.ts.below hb, ⟨k, p, c, h1.below hb⟩, h.my, h.mx, h.ly, h.lx, h.bel.trans (hb.mono h.ts.o.lw)⟩

/-- The program did something. -/
theorem PB.prog {w3 W W' : World} {L g gt gt2 gy gx : Nat} {own own2 : Nat → Nat} {m m' : PD} {t t' : TP} {m2 : PD} {t2 : TP} (h : PB w3 W L g gt gy gx own m t m2 t2) (hT : TSx W' L 0 g gt2 own2 m' t') (ho : ∀ k, k < W.heap.size → own2 k = own k) (hc : Ch (fun k => ¬ Fg2 own g k) W W') : PB w3 W' L g gt2 gy gx own2 m' t' m2 t2 := by
  obtain ⟨k, p, c, h1⟩ := h.rx
  refine ⟨hT, ⟨k, p, c, ?_⟩, (ho gy h1.rd.rc.lt).trans h.my, (ho gx h1.rt.blk.lt).trans h.mx, h.ly, h.lx, h.bel.trans (hc.lowB2 h.ts)⟩
  have h2 : RX W gy gx (Fgn own2 g) m2 t2 k p c := h1.reF (fun j hj e => e.to hj ho)
  have h3 := h1.ch hc (fun e => e ⟨Or.inr h.my, h.ts.ne h.my⟩) (fun e => e ⟨Or.inr h.mx, h.ts.ne h.mx⟩) (fun j e e2 => e2 ⟨Or.inl e.1, e.2⟩)
  exact ⟨h3.rd, h3.rt, h3.kx, h2.fk, h2.fp⟩

/-- The document's did something. -/
theorem PB.ref {w3 W W' : World} {L g gt gy gx : Nat} {own : Nat → Nat} {m : PD} {t : TP} {m2 m2' : PD} {t2 t2' : TP} (h : PB w3 W L g gt gy gx own m t m2 t2) (hr : RSv W W' gy gx (Fgn own g) m2' t2') : PB w3 W' L g gt gy gx own m t m2' t2' := by
  obtain ⟨k, p, c, h1, hc⟩ := hr
  refine ⟨h.ts.ch2 (by decide) hc (fun k e => ?_), ⟨k, p, c, h1⟩, h.my, h.mx, h.ly, h.lx, h.bel.trans (hc.lowL h.ts.o.lw (fun k hk e => ?_))⟩
  · rcases e with e | e
    · rw [e]; exact h.my
    · rw [e]; exact h.mx
  · have := h.ly
    have := h.lx
    rcases e with e | e <;> omega

/-- The law did something, to rows of its own; what is new is marked. -/
theorem PB.law {w3 W W' : World} {L g gt gy gx : Nat} {own : Nat → Nat} {m : PD} {t : TP} {m2 : PD} {t2 : TP} (h : PB w3 W L g gt gy gx own m t m2 t2) {S : Nat → Prop} (hc : Ch S W W') (hs : ∀ k, S k → own k = lawM ∧ k ≠ gy ∧ k ≠ gx) (M : Nat → Bool) (hM : ∀ k, M k = true → W.heap.size ≤ k ∧ k < W'.heap.size) : PB w3 W' L g gt gy gx (mkO own M) m t m2 t2 := by
  obtain ⟨k, p, c, h1⟩ := h.rx
  have hlow : ∀ k, k < W.heap.size → mkO own M k = own k := fun k hk => mkO_no (by
    cases e : M k with
    | false => rfl
    | true => have := (hM k e).1; omega)
  have h2 : RX W gy gx (Fgn (mkO own M) g) m2 t2 k p c := h1.reF (fun j hj e => e.to hj hlow)
  have h3 := h1.ch hc (fun e => (hs gy e).2.1 rfl) (fun e => (hs gx e).2.2 rfl) (fun j e e2 => by have := (hs j e2).1; rw [e.1] at this; cases this)
  refine ⟨h.ts.law3 (by decide) hc (fun k e => (hs k e).1) M hM, ⟨k, p, c, h3.rd, h3.rt, h3.kx, h2.fk, h2.fp⟩, (hlow gy h1.rd.rc.lt).trans h.my, (hlow gx h1.rt.blk.lt).trans h.mx, h.ly, h.lx, h.bel.trans (hc.lowL h.ts.o.lw (fun k hk e => ?_))⟩
  have h4 := (hs k e).1
  rw [(h.ts.old hk).1] at h4
  cases h4

/-- Both disks. -/
structure PD2 (w3 W : World) (L g gy : Nat) (own : Nat → Nat) (m m2 : PD) : Prop where
  ds : ∃ d, DS W L 0 g own d m
  rd : ∃ k, RD W gy m2 k ∧ ∀ x, k.p = some x → 0 < k.n → Fgn own g x.block
  my : own gy = lawM
  ly : L ≤ gy
  bel : Below L w3 W

theorem PB.d {w3 W : World} {L g gt gy gx : Nat} {own : Nat → Nat} {m : PD} {t : TP} {m2 : PD} {t2 : TP} (h : PB w3 W L g gt gy gx own m t m2 t2) : PD2 w3 W L g gy own m m2 := by
  obtain ⟨k, p, c, h1⟩ := h.rx
  obtain ⟨d, pb, nb, cb, pr, cr, vs, Bv, h2, _⟩ := h.ts
  exact ⟨⟨d, h2⟩, ⟨k, h1.rd, h1.fk⟩, h.my, h.ly, h.bel⟩

/-- The program's tape, opened, and the document's disk. -/
structure PO (w3 W : World) (L g gt gy : Nat) (own : Nat → Nat) (m : PD) (t : TP) (m2 : PD) : Prop where
  ts : TSx W L 0 g gt own m t
  rd : ∃ k, RD W gy m2 k ∧ ∀ x, k.p = some x → 0 < k.n → Fgn own g x.block
  my : own gy = lawM
  ly : L ≤ gy
  bel : Below L w3 W

theorem PD2.open1 {w3 W : World} {L g gy : Nat} {own : Nat → Nat} {m m2 : PD} (h : PD2 w3 W L g gy own m m2) (s : Nat) (hm : Fit m s) (hs : s ≤ 274877906944) (hBy : ∀ i, i < 2 → By (m.f i).told) (hfew : (cnt m).2.1.recs.length ≤ 1000000) :
    Calls Tryz.prog 8 #[.pointer (some ⟨g, 0, none⟩)] W fun e W' => ∃ gt own2, e = .returned (.tuple #[opT (opM m).1 gt, .int .i64 (opM m).1]) ∧ PO w3 W' L g gt gy own2 (opM m).2.1 (opM m).2.2 m2 := by
  obtain ⟨hf, hfit, _, _⟩ := cnt_fit hBy
  obtain ⟨d, hD⟩ := h.ds
  obtain ⟨k, hR, hk⟩ := h.rd
  refine (Open_S2 W L 0 g own m s (by decide) ⟨d, hD⟩ hm hs hBy hf hfit hfew).mono ?_
  rintro e W' ⟨gt, rfl, own2, h3, h4, h5⟩
  have hgy : gy ≠ g := fun e => by have h1 := h.my; rw [e, hD.da.og] at h1; cases h1
  refine ⟨gt, own2, rfl, h3, ⟨k, hR.ch h5 (fun e => e ⟨Or.inr h.my, hgy⟩) (fun x e h0 e2 => e2 ⟨Or.inl (hk x e h0).1, (hk x e h0).2⟩), fun x e h0 => (hk x e h0).to (hR.keep.ltb x e h0) h4⟩, (h4 gy hR.rc.lt).trans h.my, h.ly, h.bel.trans (h5.lowL hD.lw (fun j hj e => e ⟨Or.inl (hD.low j hj), by have := hD.lg; omega⟩))⟩

theorem PO.open2 {w3 W : World} {L g gt gy : Nat} {own : Nat → Nat} {m m1 : PD} {t : TP} (h : PO w3 W L g gt gy own m1 t m) (s : Nat) (hm : m.ok s) (hs : s ≤ 1000000000) (hp : m.pre) (hw : m.down = false) (hBy : ∀ i, i < 2 → By (m.f i).told) (hfew : (cnt m).2.1.recs.length ≤ 1000000) :
    Calls Tryz.prog 9 #[.pointer (some ⟨gy, 0, none⟩)] W fun e W' => ∃ gx own2, e = .returned (.tuple #[opT (opM m).1 gx, .int .i64 (opM m).1]) ∧ PB w3 W' L g gt gy gx own2 m1 t (opM m).2.1 (opM m).2.2 := by
  obtain ⟨hf, hfit, hg40, _⟩ := cnt_fit hBy
  have hg0 := hfit.gen
  obtain ⟨k, hR, hk⟩ := h.rd
  have hsl : (sealR ⟨(cnt m).2.1.gen + 1, (cnt m).2.1.base, (cnt m).2.1.recs⟩).length ≤ 1099511627 := by
    have h1 := (cnt_ge hBy).2 s (fun i hi => hm.told i (by omega))
    unfold sealR
    rw [List.length_append, headR_hd]
    show (sealL (hdR ((cnt m).2.1.gen + 1).toNat (cnt m).2.1.recs.length (cnt m).2.1.base)).length + (((cnt m).2.1.recs.map sealL).flatten).length ≤ _
    have h3 : (sealL (hdR ((cnt m).2.1.gen + 1).toNat (cnt m).2.1.recs.length (cnt m).2.1.base)).length ≤ 20000 := by
      unfold sealL
      rw [List.length_append, List.length_append]
      have l1 : (hdR ((cnt m).2.1.gen + 1).toNat (cnt m).2.1.recs.length (cnt m).2.1.base).length ≤ 9000 := by
        unfold hdR
        rw [List.length_append, List.length_append, List.length_append]
        have h1 := putL_len_le 6 ((cnt m).2.1.gen + 1).toNat (by omega)
        have h2 := putL_len_le 2 (cnt m).2.1.recs.length (by omega)
        have h3 := putL_len_le 1 (cnt m).2.1.base.length (Nat.lt_of_le_of_lt hfit.base.1 (by decide))
        have := hfit.base.1
        omega
      have l2 := putL_len_le 2 (hdR ((cnt m).2.1.gen + 1).toNat (cnt m).2.1.recs.length (cnt m).2.1.base).length (by omega)
      have l3 : ∀ s, (sum4 s).length = 4 := fun _ => rfl
      rw [l3]
      omega
    omega
  refine (rOpen_S W gy (Fgn own g) (fun j hj => h.ts.new hj) m k hR hk s hm (by omega) hp hw hBy hf hfit hg40 hfew hsl).mono ?_
  rintro e W' ⟨gx, rfl, hge, ⟨k2, p2, c2, hx⟩, hch⟩
  have hT2 := h.ts.law3 (by decide) hch (fun j e => by rw [e]; exact h.my) (fun j => decide (j = gx)) (fun j e => by rw [of_decide_eq_true e]; exact ⟨hge, hx.rt.blk.lt⟩)
  have hne : gy ≠ gx := fun e => hx.rt.ne e.symm
  refine ⟨gx, mkO own (fun j => decide (j = gx)), rfl, hT2, ⟨k2, p2, c2, ?_⟩, ?_, ?_, h.ly, by have := h.ts.o.lw; omega, h.bel.trans (hch.lowL h.ts.o.lw (fun j hj e => by have := h.ly; omega))⟩
  · have key : ∀ j, j ≠ gx → Fgn own g j → Fgn (mkO own (fun j => decide (j = gx))) g j := fun j hj e => ⟨by rw [mkO_no (decide_eq_false hj)]; exact e.1, e.2⟩
    exact ⟨hx.rd, hx.rt, hx.kx, fun x e h0 => key _ (hx.kx x e h0) (hx.fk x e h0), fun x e h0 => key _ (hx.rt.fr x e h0).2 (hx.fp x e h0)⟩
  · rw [mkO_no (decide_eq_false hne)]; exact h.my
  · exact mkO_yes (decide_eq_true rfl)

end Go.Proofs.YtpjhadaiodnnaaaGreat.M
end

section
namespace Go.Proofs.YtpjhadaiodnnaaaGreat.M
open Go.ChangeShapes Go.WideShapes Go.ChangeAt Go.RowKit
set_option linter.unusedSimpArgs false

/-- A file that may be: short, of bytes, what lasts a beginning of what is told. -/
structure Pf (x : PF) (S : Nat) : Prop where
  told : x.told.length ≤ S
  lasts : x.lasts.length ≤ S
  bt : By x.told
  bl : By x.lasts
  pre : x.pre

theorem Pf.mono {x : PF} {S S2 : Nat} (h : Pf x S) (hS : S ≤ S2) : Pf x S2 := ⟨Nat.le_trans h.told hS, Nat.le_trans h.lasts hS, h.bt, h.bl, h.pre⟩

theorem Pf.crash {x : PF} {S : Nat} (h : Pf x S) (k : Int) : Pf (x.crash k) S := by
  have h1 : (x.rest k).length ≤ S ∧ By (x.rest k) := by
    unfold PF.rest
    split
    · exact ⟨h.lasts, h.bl⟩
    · exact ⟨Nat.le_trans (List.length_take_le' _ _) h.told, fun z hz => h.bt z (List.mem_of_mem_take hz)⟩
  exact ⟨h1.1, h1.1, h1.2, h1.2, fun _ => List.prefix_refl _⟩

/-- A disk that may be. -/
structure Pd (m : PD) (S : Nat) : Prop where
  r0 : 0 < m.room
  r1 : m.room ≤ 4194304
  f : ∀ i, i < 8 → Pf (m.f i) S
  keep : m.keep.length ≤ 16384
  left : m.left ≤ 9223372036854775807

theorem Pd.ok {m : PD} {S : Nat} (h : Pd m S) : m.ok S := ⟨h.r0, h.r1, fun i hi => (h.f i hi).told, fun i hi => (h.f i hi).lasts, h.keep, h.left⟩
theorem Pd.pre {m : PD} {S : Nat} (h : Pd m S) : m.pre := fun i hi => (h.f i hi).pre
theorem Pd.by2 {m : PD} {S : Nat} (h : Pd m S) : ∀ i, i < 2 → By (m.f i).told := fun i hi => (h.f i (by omega)).bt
theorem Pd.mono {m : PD} {S S2 : Nat} (h : Pd m S) (hS : S ≤ S2) : Pd m S2 := ⟨h.r0, h.r1, fun i hi => (h.f i hi).mono hS, h.keep, h.left⟩

theorem Pd.fall {m : PD} {S : Nat} (h : Pd m S) (keep : List Int) : Pd (m.fall keep) S :=
  ⟨h.r0, h.r1, fun i hi => by show Pf (if i < 8 then (m.f i).crash (keepAt keep i) else m.f i) S; rw [if_pos hi]; exact (h.f i hi).crash _, Nat.zero_le _, Nat.zero_le _⟩

theorem Pd.act {m : PD} {S S2 n : Nat} {X : Nat → Nat → PF} (h : Pd m S) (hX : ∀ n1, ∀ i, i < 8 → Pf (X n1 i) S2) : Pd (m.act n X) S2 := by
  unfold PD.act
  split
  · exact ⟨h.r0, h.r1, hX n, h.keep, h.left⟩
  · split
    · exact Pd.fall (m := { m with f := X m.left }) ⟨h.r0, h.r1, hX _, h.keep, h.left⟩ _
    · exact ⟨h.r0, h.r1, hX n, h.keep, Nat.le_trans (Nat.sub_le _ _) h.left⟩

theorem Pf.up {f : Nat → PF} {S S2 i : Nat} {x : PF} (h : ∀ j, j < 8 → Pf (f j) S) (hS : S ≤ S2) (hx : Pf x S2) : ∀ j, j < 8 → Pf (upP f i x j) S2 := fun j hj => by
  unfold upP
  split
  · exact hx
  · exact (h j hj).mono hS

theorem Pd.clearAt {m : PD} {S : Nat} (h : Pd m S) {i : Nat} (hi : i < 8) : Pd (m.clearAt i) S := h.act fun _ => Pf.up h.f (Nat.le_refl _) ⟨Nat.zero_le _, (h.f i hi).lasts, By.nil, (h.f i hi).bl, fun e => by cases e⟩

theorem Pd.syncAt {m : PD} {S : Nat} (h : Pd m S) {i : Nat} (hi : i < 8) : Pd (m.syncAt i) S := h.act fun _ => Pf.up h.f (Nat.le_refl _) ⟨(h.f i hi).told, (h.f i hi).told, (h.f i hi).bt, (h.f i hi).bt, fun _ => List.prefix_refl _⟩

theorem Pd.putAt {m : PD} {S S2 : Nat} (h : Pd m S) (hS : S ≤ S2) {i : Nat} (hi : i < 8) {b : List Int} (hb : By b) (hl : (m.f i).told.length + b.length ≤ S2) : Pd (m.putAt i b) S2 := h.act fun n1 => Pf.up h.f hS ⟨by
    show ((m.f i).told ++ b.take n1).length ≤ S2
    rw [List.length_append]
    have := List.length_take_le' n1 b
    omega, Nat.le_trans (h.f i hi).lasts hS, By.app (h.f i hi).bt (fun x hx => hb x (List.mem_of_mem_take hx)), (h.f i hi).bl, fun e => ((h.f i hi).pre e).trans (List.prefix_append _ _)⟩

theorem Pd.ptM {m : PD} {S S2 : Nat} (h : Pd m S) {i : Nat} (hi : i < 8) {b : List Int} (hb : By b) (hl : S + b.length ≤ S2) : Pd (ptM m i b).1 S2 := by
  unfold M.ptM
  have := (h.f i hi).told
  split
  · exact h.mono (by omega)
  · exact h.putAt (by omega) hi hb (by omega)

theorem Pd.wrM {m : PD} {S S2 : Nat} (h : Pd m S) {i : Nat} (hi : i < 8) {b : List Int} (hb : By b) (hS : S ≤ S2) (hl : b.length ≤ S2) : Pd (wrM m i b).1 S2 := by
  have hc := h.clearAt hi
  unfold M.wrM
  split
  · exact hc.mono hS
  · rename_i hg
    have hg' : m.gone 1 = false := by
      cases e : m.gone 1 with
      | false => rfl
      | true => exact absurd e hg
    have hf : ((m.clearAt i).f i).told = [] := by
      show ((m.act 1 _).f i).told = []
      rw [act_f hg', upP_same]
    split
    · exact hc.mono hS
    · have hp : Pd ((m.clearAt i).putAt i b) S2 := hc.putAt hS hi hb (by rw [hf]; show 0 + b.length ≤ S2; omega)
      split
      · exact hp
      · exact hp.syncAt hi

/-- A tape that may be. -/
structure Pt (t : TP) (N : Nat) : Prop where
  file : t.file ≤ 1
  fit : t.r.fit
  gen : t.r.gen ≤ 1099511627776
  few : t.r.recs.length ≤ N

theorem Pt.mono {t : TP} {N N2 : Nat} (h : Pt t N) (hN : N ≤ N2) : Pt t N2 := ⟨h.file, h.fit, h.gen, Nat.le_trans h.few hN⟩

theorem put_pz {m : PD} {t : TP} {S N : Nat} (h : Pd m S) (ht : Pt t N) {xs : List Int} (hx : By xs) (hl : xs.length ≤ 16384) : Pd (ptT m t xs).2.1 (S + 17000) ∧ Pt (ptT m t xs).2.2 (N + 1) := by
  unfold ptT
  split
  · exact ⟨h.mono (Nat.le_add_right _ _), ht.mono (Nat.le_succ _)⟩
  · rename_i h8
    have hs := sealL_len_le (ys := xs) (by omega)
    refine ⟨h.ptM (by have := ht.file; omega) (sealL_by hx) (by omega), ?_⟩
    dsimp only
    split
    · refine ⟨ht.file, ⟨ht.fit.gen, ht.fit.base, ?_⟩, ht.gen, by show (t.r.recs ++ [xs]).length ≤ _; rw [List.length_append]; have := ht.few; show t.r.recs.length + 1 ≤ _; omega⟩
      refine all_getD (P := fun d => By d ∧ d.length ≤ 8192) (fun d hd => ?_)
      rcases List.mem_append.1 hd with hd | hd
      · exact getD_all (P := fun d => By d ∧ d.length ≤ 8192) ht.fit.recs d hd
      · rw [List.mem_singleton] at hd
        rw [hd]; exact ⟨hx, by omega⟩
    · exact ht.mono (Nat.le_succ _)

theorem sync_pz {m : PD} {t : TP} {S N : Nat} (h : Pd m S) (ht : Pt t N) : Pd (syT m t).2.1 S ∧ Pt (syT m t).2.2 N := by
  refine ⟨h.syncAt (by have := ht.file; omega), ?_⟩
  unfold syT
  dsimp only
  split
  · exact ⟨ht.file, ht.fit, ht.gen, ht.few⟩
  · exact ht

theorem save_pz {m : PD} {t : TP} {S N S2 N2 : Nat} (h : Pd m S) (ht : Pt t N) {base : List Int} {recs : List (List Int)} (hb : By base) (hr : ∀ d ∈ recs, By d) (hS : S ≤ S2) (hsl : (sealR ⟨t.r.gen + 1, base, recs⟩).length ≤ S2) (hN : N ≤ N2) (hl : recs.length ≤ N2) : Pd (svT m t base recs).2.1 S2 ∧ Pt (svT m t base recs).2.2 N2 := by
  unfold svT
  split
  · exact ⟨h.mono hS, ht.mono hN⟩
  · rename_i h40
    split
    · exact ⟨h.mono hS, ht.mono hN⟩
    · rename_i hft
      obtain ⟨hf1, hf2⟩ := fits_yes hft
      have hsb : By (sealR ⟨t.r.gen + 1, base, recs⟩) := by rw [sealR_file]; exact fileR_by hb hr
      refine ⟨h.wrM (by have := ht.file; omega) hsb hS hsl, ?_⟩
      dsimp only
      split
      · have hg := ht.fit.gen
        exact ⟨by show 1 - t.file ≤ 1; omega, ⟨by show 0 ≤ t.r.gen + 1; omega, ⟨hf1, hb⟩, all_getD (P := fun d => By d ∧ d.length ≤ 8192) (fun d hd => ⟨hr d hd, getD_all (P := fun d => d.length ≤ 8192) hf2 d hd⟩)⟩, by show t.r.gen + 1 ≤ _; omega, hl⟩
      · exact ht.mono hN

theorem open_pz {m : PD} {S N : Nat} (h : Pd m S) (hS : S ≤ 4000000) (hN : S ≤ 5 * N) : Pd (opM m).2.1 (S + 9000) ∧ Pt (opM m).2.2 N ∧ 5 * (cnt m).2.1.recs.length ≤ S := by
  obtain ⟨hf, hfit, hg40, hn5⟩ := cnt_fit h.by2
  have hn := hn5 S (fun i hi => (h.f i (by omega)).told)
  have hfl := (cnt_ge h.by2).2 S (fun i hi => (h.f i (by omega)).told)
  have hg := hfit.gen
  have hpt : Pt ⟨(cnt m).1, (cnt m).2.1.recs.length, (cnt m).2.1⟩ N := ⟨hf, hfit, hg40, by show (cnt m).2.1.recs.length ≤ N; omega⟩
  unfold opM
  split
  · exact ⟨h.mono (Nat.le_add_right _ _), hpt, hn⟩
  · by_cases h40 : 1099511627776 ≤ (cnt m).2.1.gen
    · unfold svT
      rw [if_pos h40]
      exact ⟨h.mono (Nat.le_add_right _ _), hpt, hn⟩
    · have hs : (sealR ⟨(cnt m).2.1.gen + 1, (cnt m).2.1.base, (cnt m).2.1.recs⟩).length ≤ S + 9000 := by
        unfold sealR
        rw [List.length_append, headR_hd]
        have h1 := sealL_len_le (hdR_ok (gen := ((cnt m).2.1.gen + 1).toNat) (ns := (cnt m).2.1.recs.length) (base := (cnt m).2.1.base) (by omega) (by omega) hfit.base).2
        show (sealL (hdR ((cnt m).2.1.gen + 1).toNat (cnt m).2.1.recs.length (cnt m).2.1.base)).length + (((cnt m).2.1.recs.map sealL).flatten).length ≤ _
        omega
      obtain ⟨k1, k2⟩ := save_pz h hpt (S2 := S + 9000) (N2 := N) hfit.base.2 (fun d hd => (getD_all (P := fun d => By d ∧ d.length ≤ 8192) hfit.recs d hd).1) (Nat.le_add_right _ _) hs (Nat.le_refl _) (by omega)
      exact ⟨k1, k2, hn⟩

/-- Where the power went no fuse is left. -/
def Fz (m : PD) : Prop := m.down = true → m.left = 0

theorem Fz.act {m : PD} (h : Fz m) (n : Nat) (X : Nat → Nat → PF) : Fz (m.act n X) := by
  unfold PD.act
  split
  · rename_i h0; exact fun _ => h0
  · rename_i h0
    split
    · exact fun _ => rfl
    · exact fun e => absurd (h e) h0

theorem Fz.put {m : PD} (h : Fz m) (t : TP) (xs : List Int) : Fz (ptT m t xs).2.1 := by
  unfold ptT
  split
  · exact h
  · show Fz (ptM m t.file (sealL xs)).1
    unfold ptM
    split
    · exact h
    · exact h.act _ _

theorem Fz.save {m : PD} (h : Fz m) (t : TP) (base : List Int) (recs : List (List Int)) : Fz (svT m t base recs).2.1 := by
  unfold svT
  split
  · exact h
  · split
    · exact h
    · show Fz (wrM m (1 - t.file) (sealR ⟨t.r.gen + 1, base, recs⟩)).1
      unfold wrM
      split
      · exact h.act _ _
      · split
        · exact h.act _ _
        · split
          · exact (h.act _ _).act _ _
          · exact ((h.act _ _).act _ _).act _ _

theorem opM_up {m : PD} (hc : m.left = 0) (hw : m.down = false) : (opM m).2.1.down = false := by
  have hcal : Cal m := ⟨hc, hw⟩
  unfold opM
  split
  · exact hw
  · unfold svT
    split
    · exact hw
    · split
      · exact hw
      · dsimp only
        rcases hcal.write (1 - (cnt m).1) (sealR ⟨(cnt m).2.1.gen + 1, (cnt m).2.1.base, (cnt m).2.1.recs⟩) with e | e <;> rw [e] <;> exact hw

end Go.Proofs.YtpjhadaiodnnaaaGreat.M
end

section
namespace Go.Proofs.YtpjhadaiodnnaaaGreat.M
open Go.ChangeShapes Go.WideShapes Go.ChangeAt Go.RowKit
set_option linter.unusedSimpArgs false

/-- A disk's own call leaves its tape. -/
theorem TSx.dsk {w w' : World} {L g gt : Nat} {own : Nat → Nat} {d d2 : Dk} {m m' : PD} {t : TP} {pb : Option Addr} {nb cb : Nat} {pr : Option Addr} {cr : Nat} {vs : List Value} {Bv : Nat} (h1 : DS w L 0 g own d m) (h2 : TB w own g gt t pb nb cb pr cr vs) (h3 : L ≤ gt) (h4 : TO w own Bv g gt t pb nb cb pr cr vs) (h5 : Bv ≤ w.heap.size) (hD : DA w' L own 0 g d2 m') (hc : Ch (fun k => k = g) w w') : TSx w' L 0 g gt own m' t ∧ Ch (fun k => ¬ Fg2 own g k) w w' := by
  have hO : TO w' own Bv g gt t pb nb cb pr cr vs := h4.ch hc (fun k hf _ => hf.2) (fun _ _ e => e)
  exact ⟨⟨d2, pb, nb, cb, pr, cr, vs, Bv, h1.mv hD hc.size (fun _ _ => rfl), hO.tb (h2.blk.ch hc h2.fg.2) h2.fg, h3, hO, Nat.le_trans h5 hc.size⟩, hc.mono fun k _ e h => h.2 e⟩

theorem Arm_T2 (w : World) (L g gt : Nat) (own : Nat → Nat) (m : PD) (t : TP) (hT : TSx w L 0 g gt own m t) (hr : 0 < m.room) (hw : m.down = false) (n : Nat) (hn : 1 ≤ n) (q : Option Addr) (l c : Nat) (ks : List Int) (hy : Rd .i64 w q l c ks) (hl : l ≤ 1099511627776) :
    Calls Tryz.prog 19 #[.pointer (some ⟨g, 0, none⟩), .int .i64 n, .slice q l c] w fun e w' => e = .returned (.int .i64 0) ∧ TSx w' L 0 g gt own { m with left := n, keep := ks } t ∧ Ch (fun k => ¬ Fg2 own g k) w w' := by
  obtain ⟨d, pb, nb, cb, pr, cr, vs, Bv, h1, h2, h3, h4, h5⟩ := hT
  refine (Arm_ok w L own 0 g d m h1.da hr hw n hn q l c ks hy hl).mono ?_
  rintro e w' ⟨rfl, d2, hD, hc⟩
  exact ⟨rfl, TSx.dsk h1 h2 h3 h4 h5 hD hc⟩

theorem Crash_T2 (w : World) (L g gt : Nat) (own : Nat → Nat) (m : PD) (t : TP) (s : Nat) (hT : TSx w L 0 g gt own m t) (hm : m.ok s) (hs : s ≤ 274877906944) (hw : m.down = false) (q : Option Addr) (l c : Nat) (ks : List Int) (hy : Rd .i64 w q l c ks) (hlow : ∀ x, q = some x → 0 < l → x.block < L) (hl : l ≤ 1099511627776) :
    Calls Tryz.prog 17 #[.pointer (some ⟨g, 0, none⟩), .slice q l c] w fun e w' => e = .returned (.int .i64 0) ∧ TSx w' L 0 g gt own (m.fall ks) t ∧ Ch (fun k => ¬ Fg2 own g k) w w' := by
  obtain ⟨d, pb, nb, cb, pr, cr, vs, Bv, h1, h2, h3, h4, h5⟩ := hT
  refine (Crash_gen w L own 0 g d m h1.da hm.r0 hw (hm.few (by omega)) q l c ks hy (fun x e h0 => by have := hlow x e h0; have := h1.lg; omega) hl).mono ?_
  rintro e w' ⟨rfl, d2, hD, hc⟩
  exact ⟨rfl, TSx.dsk h1 h2 h3 h4 h5 hD hc⟩

theorem Start_T2 (w : World) (L g gt : Nat) (own : Nat → Nat) (m : PD) (t : TP) (hT : TSx w L 0 g gt own m t) (hr : 0 < m.room) :
    Calls Tryz.prog 23 #[.pointer (some ⟨g, 0, none⟩)] w fun e w' => e = .returned (.int .i64 0) ∧ TSx w' L 0 g gt own { m with down := false } t ∧ Ch (fun k => ¬ Fg2 own g k) w w' := by
  obtain ⟨d, pb, nb, cb, pr, cr, vs, Bv, h1, h2, h3, h4, h5⟩ := hT
  refine (Start_ok w L own 0 g d m h1.da hr).mono ?_
  rintro e w' ⟨rfl, hD, hc⟩
  exact ⟨rfl, TSx.dsk h1 h2 h3 h4 h5 hD hc⟩

section
variable {w3 W : World} {L g gt gy gx : Nat} {own : Nat → Nat} {m : PD} {t : TP} {m2 : PD} {t2 : TP}

/-- What a call of the program's leaves. -/
def P1 (w3 W : World) (L g gt gy gx : Nat) (own : Nat → Nat) (m : PD) (t : TP) (m2 : PD) (t2 : TP) (W' : World) : Prop := ∃ own2, PB w3 W' L g gt gy gx own2 m t m2 t2 ∧ (∀ k, k < W.heap.size → own2 k = own k) ∧ Ch (fun k => ¬ Fg2 own g k) W W'

theorem PB.put1 (h : PB w3 W L g gt gy gx own m t m2 t2) {S N : Nat} (hd : Pd m S) (hS : S ≤ 4000000) (hw : m.down = false) (ht : Pt t N) (hN : N < 1000000) (pa : Option Addr) (na ca : Nat) (xs : List Int) (hpa : Rd .u8 W pa na ca xs) (hby : By xs) (hda : ∀ x, pa = some x → 0 < na → Fg2 own g x.block) :
    Calls Tryz.prog 21 #[.pointer (some ⟨gt, 0, none⟩), .slice pa na ca] W fun e W' => e = .returned (.int .i64 (ptT m t xs).1) ∧ P1 w3 W L g gt gy gx own (ptT m t xs).2.1 (ptT m t xs).2.2 m2 t2 W' := by
  refine (Put_S2 W W L 0 g gt own m t S (by decide) h.ts (Below.refl _ _) ⟨hd.ok, hw⟩ (by omega) ht.file (by have := ht.few; omega) pa na ca xs hpa hby hda).mono ?_
  rintro e W' ⟨rfl, own2, hT, ho, hc⟩
  exact ⟨rfl, own2, h.prog hT ho hc, ho, hc⟩

theorem PB.sync1 (h : PB w3 W L g gt gy gx own m t m2 t2) {S N : Nat} (hd : Pd m S) (hS : S ≤ 4000000) (hw : m.down = false) (ht : Pt t N) :
    Calls Tryz.prog 12 #[.pointer (some ⟨gt, 0, none⟩)] W fun e W' => e = .returned (.int .i64 (syT m t).1) ∧ P1 w3 W L g gt gy gx own (syT m t).2.1 (syT m t).2.2 m2 t2 W' := by
  refine (Sync_S2 W L 0 g gt own m t S (by decide) h.ts ⟨hd.ok, hw⟩ (by omega) ht.file).mono ?_
  rintro e W' ⟨rfl, own2, hT, ho, hc⟩
  exact ⟨rfl, own2, h.prog hT ho hc, ho, hc⟩

theorem PB.save1 (h : PB w3 W L g gt gy gx own m t m2 t2) {S N : Nat} (hd : Pd m S) (hS : S ≤ 4000000) (hw : m.down = false) (ht : Pt t N) (pa : Option Addr) (na ca : Nat) (base : List Int) (hpa : Rd .u8 W pa na ca base) (hby : By base) (pl : Option Addr) (nl cl : Nat) (us : List Value) (recs : List (List Int)) (hpl : RdV W pl nl cl us) (hus : Sls W us recs) (hnl : nl = recs.length) (hfew : nl ≤ 1000000) (hrec : ∀ d ∈ recs, By d) :
    Calls Tryz.prog 14 #[.pointer (some ⟨gt, 0, none⟩), .slice pa na ca, .slice pl nl cl] W fun e W' => e = .returned (.int .i64 (svT m t base recs).1) ∧ P1 w3 W L g gt gy gx own (svT m t base recs).2.1 (svT m t base recs).2.2 m2 t2 W' := by
  refine (Save_T2 W L 0 g gt own m t S (by decide) h.ts ⟨hd.ok, hw⟩ (by omega) ht.file ht.fit.gen pa na ca base hpa hby pl nl cl us recs hpl hus hnl hfew (all_getD hrec)).mono ?_
  rintro e W' ⟨rfl, own2, hT, ho, hc⟩
  exact ⟨rfl, own2, h.prog hT ho hc, ho, hc⟩

theorem PB.crash1 (h : PB w3 W L g gt gy gx own m t m2 t2) {S : Nat} (hd : Pd m S) (hS : S ≤ 4000000) (hw : m.down = false) (q : Option Addr) (l c : Nat) (ks : List Int) (hy : Rd .i64 W q l c ks) (hlow : ∀ x, q = some x → 0 < l → x.block < L) (hl : l ≤ 16384) :
    Calls Tryz.prog 17 #[.pointer (some ⟨g, 0, none⟩), .slice q l c] W fun e W' => e = .returned (.int .i64 0) ∧ P1 w3 W L g gt gy gx own (m.fall ks) t m2 t2 W' := by
  refine (Crash_T2 W L g gt own m t S h.ts hd.ok (by omega) hw q l c ks hy hlow (by omega)).mono ?_
  rintro e W' ⟨rfl, hT, hc⟩
  exact ⟨rfl, own, h.prog hT (fun _ _ => rfl) hc, fun _ _ => rfl, hc⟩

theorem PB.arm1 (h : PB w3 W L g gt gy gx own m t m2 t2) {S : Nat} (hd : Pd m S) (hw : m.down = false) (n : Nat) (hn : 1 ≤ n) (q : Option Addr) (l c : Nat) (ks : List Int) (hy : Rd .i64 W q l c ks) (hl : l ≤ 16384) :
    Calls Tryz.prog 19 #[.pointer (some ⟨g, 0, none⟩), .int .i64 n, .slice q l c] W fun e W' => e = .returned (.int .i64 0) ∧ P1 w3 W L g gt gy gx own { m with left := n, keep := ks } t m2 t2 W' := by
  refine (Arm_T2 W L g gt own m t h.ts hd.r0 hw n hn q l c ks hy (by omega)).mono ?_
  rintro e W' ⟨rfl, hT, hc⟩
  exact ⟨rfl, own, h.prog hT (fun _ _ => rfl) hc, fun _ _ => rfl, hc⟩

theorem PB.start1 (h : PB w3 W L g gt gy gx own m t m2 t2) (hr : 0 < m.room) :
    Calls Tryz.prog 23 #[.pointer (some ⟨g, 0, none⟩)] W fun e W' => e = .returned (.int .i64 0) ∧ P1 w3 W L g gt gy gx own { m with down := false } t m2 t2 W' := by
  refine (Start_T2 W L g gt own m t h.ts hr).mono ?_
  rintro e W' ⟨rfl, hT, hc⟩
  exact ⟨rfl, own, h.prog hT (fun _ _ => rfl) hc, fun _ _ => rfl, hc⟩

/-- What a call of the document's leaves. -/
def P2 (w3 W : World) (L g gt gy gx : Nat) (own : Nat → Nat) (m : PD) (t : TP) (m2 : PD) (t2 : TP) (W' : World) : Prop := PB w3 W' L g gt gy gx own m t m2 t2 ∧ Ch (fun k => k = gy ∨ k = gx) W W'

theorem PB.toP2 {W' : World} {m2' : PD} {t2' : TP} (h : PB w3 W L g gt gy gx own m t m2 t2) (hr : RSv W W' gy gx (Fgn own g) m2' t2') : P2 w3 W L g gt gy gx own m t m2' t2' W' := by
  refine ⟨h.ref hr, ?_⟩
  obtain ⟨k, p, c, h1, hc⟩ := hr
  exact hc

theorem PB.put2 (h : PB w3 W L g gt gy gx own m t m2 t2) {S N : Nat} (hd : Pd m2 S) (hS : S ≤ 4000000) (hw : m2.down = false) (ht : Pt t2 N) (hN : N < 1000000) (xs : List Int) (hby : By xs) :
    Calls Tryz.prog 22 #[.pointer (some ⟨gx, 0, none⟩), .string (strOfNums xs)] W fun e W' => e = .returned (.int .i64 (ptT m2 t2 xs).1) ∧ P2 w3 W L g gt gy gx own m t (ptT m2 t2 xs).2.1 (ptT m2 t2 xs).2.2 W' := by
  obtain ⟨k, p, c, h1⟩ := h.rx
  refine (rTPut_any W gy gx (Fgn own g) (fun j hj => h.ts.new hj) m2 t2 k p c h1 S hd.ok (by omega) hd.pre hw ht.file (by have := ht.few; omega) xs hby).mono ?_
  rintro e W' ⟨rfl, h2⟩
  exact ⟨rfl, h.toP2 h2⟩

theorem PB.sync2 (h : PB w3 W L g gt gy gx own m t m2 t2) {S N : Nat} (hd : Pd m2 S) (hS : S ≤ 4000000) (hw : m2.down = false) (ht : Pt t2 N) :
    Calls Tryz.prog 13 #[.pointer (some ⟨gx, 0, none⟩)] W fun e W' => e = .returned (.int .i64 (syT m2 t2).1) ∧ P2 w3 W L g gt gy gx own m t (syT m2 t2).2.1 (syT m2 t2).2.2 W' := by
  obtain ⟨k, p, c, h1⟩ := h.rx
  refine (rTSync_any W gy gx (Fgn own g) (fun j hj => h.ts.new hj) m2 t2 k p c h1 S hd.ok (by omega) hd.pre hw ht.file).mono ?_
  rintro e W' ⟨rfl, h2⟩
  exact ⟨rfl, h.toP2 h2⟩

theorem PB.save2 (h : PB w3 W L g gt gy gx own m t m2 t2) {S N : Nat} (hd : Pd m2 S) (hS : S ≤ 4000000) (hw : m2.down = false) (ht : Pt t2 N) (base : List Int) (hby : By base) (pl : Option Addr) (nl cl : Nat) (recs : List (List Int)) (hpl : RdV W pl nl cl (strs recs)) (hplx : ∀ x, pl = some x → 0 < nl → x.block ≠ gy ∧ x.block ≠ gx) (hfew : recs.length ≤ 1000000) (hrec : ∀ d ∈ recs, By d) (hsl : (sealR ⟨t2.r.gen + 1, base, recs⟩).length ≤ 1099511627) :
    Calls Tryz.prog 15 #[.pointer (some ⟨gx, 0, none⟩), .string (strOfNums base), .slice pl nl cl] W fun e W' => e = .returned (.int .i64 (svT m2 t2 base recs).1) ∧ P2 w3 W L g gt gy gx own m t (svT m2 t2 base recs).2.1 (svT m2 t2 base recs).2.2 W' := by
  obtain ⟨k, p, c, h1⟩ := h.rx
  refine (rSave_any W gy gx (Fgn own g) (fun j hj => h.ts.new hj) m2 t2 k p c h1 S hd.ok (by omega) hd.pre hw ht.file ⟨ht.fit.gen, ht.gen⟩ base hby pl nl cl recs hpl hplx hfew (all_getD hrec) hsl).mono ?_
  rintro e W' ⟨rfl, h2⟩
  exact ⟨rfl, h.toP2 h2⟩

theorem PB.crash2 (h : PB w3 W L g gt gy gx own m t m2 t2) {S : Nat} (hd : Pd m2 S) (hS : S ≤ 4000000) (hw : m2.down = false) (q : Option Addr) (l c : Nat) (ks : List Int) (hy : Rd .i64 W q l c ks) (hlow : ∀ x, q = some x → 0 < l → x.block < L) (hl : l ≤ 16384) :
    Calls Tryz.prog 18 #[.pointer (some ⟨gy, 0, none⟩), .slice q l c] W fun e W' => e = .returned (.int .i64 0) ∧ P2 w3 W L g gt gy gx own m t (m2.fall ks) t2 W' := by
  obtain ⟨k, p, c2, h1⟩ := h.rx
  refine (rCrash_ok W gy m2 k h1.rd S hd.ok (by omega) hd.pre hw q l c ks hy (by omega) (fun x e h0 => by have := hlow x e h0; have := h.ly; omega)).mono ?_
  rintro e W' ⟨rfl, h2⟩
  obtain ⟨k', h3, h4⟩ := h1.disk (fun j hj => h.ts.new hj) h2
  exact ⟨rfl, h.toP2 (h3.sv h4)⟩

theorem PB.arm2 (h : PB w3 W L g gt gy gx own m t m2 t2) (hw : m2.down = false) (n : Nat) (hn : 1 ≤ n) (q : Option Addr) (l c : Nat) (ks : List Int) (hy : Rd .i64 W q l c ks) (hlow : ∀ x, q = some x → 0 < l → x.block < L) (hl : l ≤ 16384) :
    Calls Tryz.prog 20 #[.pointer (some ⟨gy, 0, none⟩), .int .i64 n, .slice q l c] W fun e W' => e = .returned (.int .i64 0) ∧ P2 w3 W L g gt gy gx own m t { m2 with left := n, keep := ks } t2 W' := by
  obtain ⟨k, p, c2, h1⟩ := h.rx
  refine (rArm_ok W gy m2 k h1.rd hw n hn q l c ks hy (by omega) (fun x e h0 => by have := hlow x e h0; have := h.ly; omega)).mono ?_
  rintro e W' ⟨rfl, h2⟩
  obtain ⟨k', h3, h4⟩ := h1.disk (fun j hj => h.ts.new hj) h2
  exact ⟨rfl, h.toP2 (h3.sv h4)⟩

/-- The document's disk is switched on. -/
theorem PB.on2 (h : PB w3 W L g gt gy gx own m t m2 t2) : (∃ u, W.cell? ⟨gy, 25, none⟩ = some u) ∧ W.cell? ⟨gy, 25, none⟩ = some (.bool m2.down) ∧ W.frozen? ⟨gy, 25, none⟩ = false ∧ P2 w3 W L g gt gy gx own m t { m2 with down := false } t2 (W.setCell ⟨gy, 25, none⟩ (.bool false)) := by
  obtain ⟨k, p, c, h1⟩ := h.rx
  have hc := Ch.setCell W ⟨gy, 25, none⟩ (.bool false)
  refine ⟨⟨_, h1.rd.rc.down⟩, h1.rd.rc.down, h1.rd.rc.free 25, h.toP2 ⟨k, p, c, ⟨⟨h1.rd.rc.setDown false, h1.rd.keep.ch0 hc h1.rd.ne, h1.rd.ne⟩, h1.rt.ch hc h1.rt.ne (fun x e h0 => (h1.rt.fr x e h0).1), h1.kx, h1.fk, h1.fp⟩, hc.mono fun _ _ e => Or.inl e⟩⟩

end

end Go.Proofs.YtpjhadaiodnnaaaGreat.M
end

section
namespace Go.Proofs.YtpjhadaiodnnaaaGreat.M
open Go.ChangeShapes Go.WideShapes Go.ChangeAt Go.RowKit
set_option linter.unusedSimpArgs false

/-- A row of n integers that may be written over. -/
structure Mut (k : IntKind) (w : World) (b n : Nat) : Prop where
  cells : ∀ j, j < n → ∃ v : Int, w.cell? ⟨b, j, none⟩ = some (.int k v)
  free : ∀ j, w.frozen? ⟨b, j, none⟩ = false

theorem Mut.ch {S : Nat → Prop} {k : IntKind} {w w' : World} {b n : Nat} (h : Mut k w b n) (h0 : 0 < n) (hc : Ch S w w') (hS : ¬ S b) : Mut k w' b n := by
  obtain ⟨v0, h1⟩ := h.cells 0 h0
  have hlt := World.block_lt_of_cell? _ _ h1
  exact ⟨fun j hj => by rw [hc.cell (p := ⟨b, j, none⟩) hlt hS]; exact h.cells j hj, fun j => by rw [hc.frozen (p := ⟨b, j, none⟩) hlt hS]; exact h.free j⟩

theorem Mut.set {k : IntKind} {w : World} {b n : Nat} (h : Mut k w b n) (i : Nat) (x : Int) : Mut k (w.setCell ⟨b, i, none⟩ (.int k x)) b n := by
  refine ⟨fun j hj => ?_, fun j => by rw [World.frozen?_setCell]; exact h.free j⟩
  obtain ⟨v, hv⟩ := h.cells j hj
  by_cases e : j = i
  · subst e
    exact ⟨x, World.cell?_setCell_same _ _ _ hv⟩
  · exact ⟨v, by rw [World.cell?_setCell_other (h := fun e2 => e (congrArg Addr.off e2).symm)]; exact hv⟩

theorem OwS.mut {k : IntKind} {e : TypeId} {w : World} {B : Nat} {p : Option Addr} {n c : Nat} {xs : List Int} (h : OwS k e w B p n c xs) (h0 : 0 < n) : ∃ b, p = some ⟨b, 0, none⟩ ∧ B ≤ b ∧ b < w.heap.size ∧ Mut k w b n := by
  have h' := h
  rcases h.2 with ⟨_, h2⟩ | ⟨g, cap, cur, hv, hg, hh, _⟩
  · omega
  · injection hv with e1 e2 e3
    subst e1
    refine ⟨g, rfl, hg, (Array.getElem?_eq_some_iff.1 hh).1, fun j hj => ?_, fun j => ?_⟩
    · obtain ⟨b, o, e4, hc⟩ := h'.rd.cells h0
      injection e4 with e4
      injection e4 with e5 e6 e7
      subst e5 e6
      have := hc j hj
      rw [Nat.zero_add] at this
      exact ⟨_, this⟩
    · unfold World.frozen?
      dsimp only
      rw [hh]
      simp

set_option maxRecDepth 20000 in
theorem sclone_own (p : Option Addr) (n c : Nat) (xs : List Int) (w : World) (hr : Rd .u8 w p n c xs) (hn : n ≤ 1099511627776) :
    Calls Tryz.prog 11 #[.slice p n c] w fun e w' => ∃ p' c', e = .returned (.slice p' n c') ∧ OwS .u8 5 w' w.heap.size p' n c' xs ∧ Below w.heap.size w w' := by
  have q22 : ∀ (w : World) (a : Option Addr) (n c n' c' : Nat), (binOp .eql 40 (.slice a n c) (.slice none n' c')).run Tryz.prog w = .ok (.bool a.isNone) w := fun w a n c n' c' => Lib.run_eql_slice_nil w _ _ a n c n' c' Tryz.underlying40
  obtain ⟨i0, hi0, hz0, hz1, hz2⟩ := info_parts infoU8
  cases p with
  | none =>
    have hn0 : n = 0 := by have := hr.cap; have := hr.nil rfl; omega
    subst hn0
    have hc0 := hr.nil rfl
    subst hc0
    obtain rfl : xs = [] := List.length_eq_zero_iff.1 hr.len
    go_enter Tryz.func11, Tryz.ntmps11
    go_wp2_with fail
    go_ret
    exact ⟨none, 0, rfl, OwS.nil _ _ _ _, Below.refl _ _⟩
  | some ad =>
    have hba := (Below.refl w.heap.size w).alloc (Nat.le_refl _) (.cells #[] 5)
    have hra := hr.below' hba
    have ho : OwS .u8 5 (w.alloc (.cells #[] 5)) w.heap.size (some ⟨w.heap.size, 0, none⟩) 0 0 [] := World.ownsRow_made w #[] 0 (Nat.le_refl _) (Nat.zero_le _) rfl
    clear hr
    go_enter Tryz.func11, Tryz.ntmps11
    go_wp2_with (refine wpList_app2 _ rfl (.tmp 5) (.tmp 6) 40 rfl .u8 5 i0 (.int .u8 0) 1 Tryz.underlying40 hi0 hz0 hz1 hz2 rfl w.heap.size _ 0 0 [] rfl ho (some ad) n c xs rfl hra ?c1 ?c2 ?c3 ?_)
    case c1 => omega
    case c2 => unfold maxLen; omega
    case c3 => simp
    intro p' c' w' h1 hg
    have hch := hg.ch (fun k => w.heap.size ≤ k) (fun x e => by cases e; exact Nat.le_refl _)
    have hb2 : Below w.heap.size (w.alloc (.cells #[] 5)) w' := hch.below (by simp) (fun k e => e)
    clear hg hch
    go_wp2_with fail
    go_ret
    exact ⟨p', c', rfl, by simpa using h1, hba.trans hb2⟩

/-- A store of a byte leaves all such rows. -/
theorem Mut.any {k : IntKind} {w : World} {b n : Nat} (h : Mut k w b n) (b' i : Nat) (x : Int) : Mut k (w.setCell ⟨b', i, none⟩ (.int k x)) b n := by
  by_cases e : b = b'
  · subst e; exact h.set i x
  · have hc := Ch.setCell w ⟨b', i, none⟩ (.int k x)
    by_cases h0 : 0 < n
    · exact h.ch h0 hc e
    · refine ⟨fun j hj => by omega, fun j => ?_⟩
      rw [World.frozen?_setCell]
      exact h.free j

/-- A slice of bytes that the law may write over. -/
def MutS (W : World) (p : Option Addr) (n : Nat) : Prop := 0 < n → ∃ b, p = some ⟨b, 0, none⟩ ∧ Mut .u8 W b n

theorem MutS.below {W W' : World} {p : Option Addr} {n : Nat} (h : MutS W p n) (hb : Below W.heap.size W W') : MutS W' p n := fun h0 => by
  obtain ⟨b, e, h1⟩ := h h0
  exact ⟨b, e, h1.ch h0 (Ch.of_below hb (fun _ => False)) (fun e => e)⟩

theorem MutS.ch {S : Nat → Prop} {W W' : World} {p : Option Addr} {n : Nat} (h : MutS W p n) (hc : Ch S W W') (hs : ∀ x, p = some x → 0 < n → ¬ S x.block) : MutS W' p n := fun h0 => by
  obtain ⟨b, e, h1⟩ := h h0
  exact ⟨b, e, h1.ch h0 hc (hs _ e h0)⟩

theorem MutS.set {W : World} {p : Option Addr} {n : Nat} (h : MutS W p n) (b' i : Nat) (x : Int) : MutS (W.setCell ⟨b', i, none⟩ (.int .u8 x)) p n := fun h0 => by
  obtain ⟨b, e, h1⟩ := h h0
  exact ⟨b, e, h1.any b' i x⟩

theorem sclone_mut (p : Option Addr) (n c : Nat) (xs : List Int) (w : World) (hr : Rd .u8 w p n c xs) (hn : n ≤ 1099511627776) :
    Calls Tryz.prog 11 #[.slice p n c] w fun e w' => ∃ p' c', e = .returned (.slice p' n c') ∧ Rd .u8 w' p' n c' xs ∧ MutS w' p' n ∧ (∀ x, p' = some x → 0 < n → w.heap.size ≤ x.block ∧ x.block < w'.heap.size) ∧ Below w.heap.size w w' := by
  refine (sclone_own p n c xs w hr hn).mono ?_
  rintro e w' ⟨p', c', rfl, h1, h2⟩
  refine ⟨p', c', rfl, h1.rd, fun h0 => ?_, fun x e h0 => ?_, h2⟩
  · obtain ⟨b, e, _, _, h3⟩ := h1.mut h0
    exact ⟨b, e, h3⟩
  · obtain ⟨b, e2, h3, h4, _⟩ := h1.mut h0
    rw [e] at e2
    cases e2
    exact ⟨h3, h4⟩

/-- Both disks at their beginning. -/
theorem PD2.init {w w1 w2 : World} {L g gy r : Nat} {own : Nat → Nat} {d : Dk} (hD : DS w1 L 0 g own d (pd0 r)) (hb1 : Below L w w1) (hgy : gy = w1.heap.size) (hR : RC w2 gy (pd0 r) ⟨none, 0, 0⟩) (hb2 : Below w1.heap.size w1 w2) : PD2 w w2 L g gy (mkO own (fun j => decide (j = gy))) (pd0 r) (pd0 r) := by
  have hlt : gy < w2.heap.size := hR.lt
  have hgl : g < w1.heap.size := hD.da.dc.lt
  have hlow : ∀ k, k < w1.heap.size → mkO own (fun j => decide (j = gy)) k = own k := fun k hk => mkO_no (decide_eq_false (by omega))
  have hD2 : DA w2 L (mkO own (fun j => decide (j = gy))) 0 g d (pd0 r) := by
    refine (hD.da.below hb2).reown (fun k e => ?_) ?_ (fun x e => ?_) (fun k hk => ?_)
    · refine mkO_no (decide_eq_false (fun e2 => ?_))
      rw [e2, hD.da.fr gy (by omega)] at e
      unfold mark at e
      omega
    · rw [hlow g hgl]; exact hD.da.og
    · rw [hlow _ (hD.da.ok x e).2.2]; exact (hD.da.ok x e).1
    · rw [mkO_no (decide_eq_false (by omega))]
      exact hD.da.fr k (Nat.le_trans hb2.size hk)
  refine ⟨⟨d, hD2, Nat.le_trans hD.lw hb2.size, hD.lg, fun k hk => by rw [hlow k (Nat.lt_of_lt_of_le hk hD.lw)]; exact hD.low k hk⟩, ⟨⟨none, 0, 0⟩, ⟨hR, Rd.empty _ _ _ _ (fun _ => rfl), (fun x e => by cases e)⟩, (fun x e => by cases e)⟩, mkO_yes (decide_eq_true rfl), by rw [hgy]; exact hD.lw, hb1.trans (hb2.mono hD.lw)⟩

theorem pd0_pd {r : Nat} (h1 : 1 ≤ r) (h2 : r ≤ 4194304) : Pd (pd0 r) 0 :=
  ⟨h1, h2, fun _ _ => ⟨Nat.zero_le _, Nat.zero_le _, By.nil, By.nil, fun _ => List.prefix_refl _⟩, Nat.zero_le _, Nat.zero_le _⟩

/-- Both tapes tell the same. -/
theorem PB.tells {w3 W : World} {L g gt gy gx : Nat} {own : Nat → Nat} {m : PD} {t : TP} {m2 : PD} (h : PB w3 W L g gt gy gx own m t m2 t) (cz : Int) (hp : cz = 0 → ∃ N, Pt t N ∧ N ≤ 1000000) :
    Calls Tryz.prog 10 #[opT cz gt, opT cz gx] W fun e W' => e = .returned (.bool true) ∧ Below W.heap.size W W' := by
  by_cases hcz : cz = 0
  · obtain ⟨N, hN, hl⟩ := hp hcz
    obtain ⟨k, p, c, hx⟩ := h.rx
    rw [hcz]
    exact tells_same W L 0 g gt gy gx m t h.ts.o p c hx.rt (by have := hN.fit.base.1; omega) (by have := hN.few; omega) (fun d hd => by have := (getD_all (P := fun d => By d ∧ d.length ≤ 8192) hN.fit.recs d hd).2; omega)
  · have e1 : ∀ x, opT cz x = .pointer none := fun x => by unfold opT; rw [if_neg hcz]
    rw [e1, e1]
    exact tells_nil W

theorem PB.face {w3 W : World} {L g gt gy gx : Nat} {own : Nat → Nat} {m : PD} {t t2 : TP} (h : PB w3 W L g gt gy gx own m t m t2) {S : Nat} (hd : Pd m S) (hS : S ≤ 4000000) (hw : m.down = false) :
    Calls Tryz.prog 24 #[.pointer (some ⟨g, 0, none⟩), .pointer (some ⟨gy, 0, none⟩)] W fun e W' => e = .returned (.bool true) ∧ Below W.heap.size W W' := by
  obtain ⟨k, p, c, hx⟩ := h.rx
  obtain ⟨d, pb, nb, cb, pr, cr, vs, Bv, h1, _⟩ := h.ts
  exact face_same W L 0 g gy own d m k S h1 hx.rd.rc hd.ok (by omega) hw hd.by2

/-- A slice of bytes of the law's own, that it may write over. -/
structure LB (W : World) (own : Nat → Nat) (gy gx : Nat) (p : Option Addr) (n : Nat) : Prop where
  mu : MutS W p n
  lw : ∀ x, p = some x → 0 < n → own x.block = lawM ∧ x.block ≠ gy ∧ x.block ≠ gx

theorem LB.below {W W' : World} {own : Nat → Nat} {gy gx : Nat} {p : Option Addr} {n : Nat} (h : LB W own gy gx p n) (hb : Below W.heap.size W W') : LB W' own gy gx p n := ⟨h.mu.below hb, h.lw⟩

theorem MutS.lt {W : World} {p : Option Addr} {n : Nat} (h : MutS W p n) : ∀ x, p = some x → 0 < n → x.block < W.heap.size := fun x e h0 => by
  obtain ⟨b, e2, h1⟩ := h h0
  rw [e] at e2
  cases e2
  obtain ⟨v, h2⟩ := h1.cells 0 h0
  exact World.block_lt_of_cell? _ _ h2

theorem LB.p1 {W W' : World} {own own2 : Nat → Nat} {g gy gx : Nat} {p : Option Addr} {n : Nat} (h : LB W own gy gx p n) (hg : own g = 0) (ho : ∀ k, k < W.heap.size → own2 k = own k) (hc : Ch (fun k => ¬ Fg2 own g k) W W') : LB W' own2 gy gx p n :=
  ⟨h.mu.ch hc (fun x e h0 e2 => e2 ⟨Or.inr (h.lw x e h0).1, fun e3 => by have h1 := (h.lw x e h0).1; rw [e3, hg] at h1; cases h1⟩), fun x e h0 => ⟨(ho _ (h.mu.lt x e h0)).trans (h.lw x e h0).1, (h.lw x e h0).2⟩⟩

theorem LB.p2 {W W' : World} {own : Nat → Nat} {gy gx : Nat} {p : Option Addr} {n : Nat} (h : LB W own gy gx p n) (hc : Ch (fun k => k = gy ∨ k = gx) W W') : LB W' own gy gx p n :=
  ⟨h.mu.ch hc (fun x e h0 e2 => e2.elim (h.lw x e h0).2.1 (h.lw x e h0).2.2), h.lw⟩

theorem PB.og {w3 W : World} {L g gt gy gx : Nat} {own : Nat → Nat} {m : PD} {t : TP} {m2 : PD} {t2 : TP} (h : PB w3 W L g gt gy gx own m t m2 t2) : own g = 0 := by
  obtain ⟨d, pb, nb, cb, pr, cr, vs, Bv, h1, _⟩ := h.ts
  exact h1.da.og

theorem PB.lts {w3 W : World} {L g gt gy gx : Nat} {own : Nat → Nat} {m : PD} {t : TP} {m2 : PD} {t2 : TP} (h : PB w3 W L g gt gy gx own m t m2 t2) : gy < W.heap.size ∧ gx < W.heap.size := by
  obtain ⟨k, p, c, hx⟩ := h.rx
  exact ⟨hx.rd.rc.lt, hx.rt.blk.lt⟩

/-- Before, between and behind the calls of both: the law's box bx, its bytes p, and both tapes. -/
def SB (w3 : World) (L g gt gy gx bx : Nat) (BX : Array Value) (pB : Option Addr) (nB : Nat) (m : PD) (t : TP) (m2 : PD) (t2 : TP) (W : World) : Prop := ∃ own, PB w3 W L g gt gy gx own m t m2 t2 ∧ At 44 W bx BX ∧ own bx = lawM ∧ bx ≠ gy ∧ bx ≠ gx ∧ LB W own gy gx pB nB

theorem SB.stays {w3 : World} {L g gt gy gx bx : Nat} {BX : Array Value} {pB : Option Addr} {nB : Nat} {m : PD} {t : TP} {m2 : PD} {t2 : TP} : Stays (SB w3 L g gt gy gx bx BX pB nB m t m2 t2) := fun _ _ h hb => by
  obtain ⟨own, h1, h2, h3, h4, h5, h6⟩ := h
  exact ⟨own, h1.below hb, h2.below hb, h3, h4, h5, h6.below hb⟩

theorem SB.p1 {w3 W W' : World} {L g gt gy gx bx : Nat} {BX : Array Value} {pB : Option Addr} {nB : Nat} {own : Nat → Nat} {m m' : PD} {t t' : TP} {m2 : PD} {t2 : TP} (h : PB w3 W L g gt gy gx own m t m2 t2) (h2 : At 44 W bx BX) (h3 : own bx = lawM) (h4 : bx ≠ gy) (h5 : bx ≠ gx) (h6 : LB W own gy gx pB nB) (hp : P1 w3 W L g gt gy gx own m' t' m2 t2 W') : SB w3 L g gt gy gx bx BX pB nB m' t' m2 t2 W' := by
  obtain ⟨own2, k1, k2, k3⟩ := hp
  exact ⟨own2, k1, h2.ch k3 (fun e => e ⟨Or.inr h3, h.ts.ne h3⟩), (k2 bx h2.lt).trans h3, h4, h5, h6.p1 h.og k2 k3⟩

theorem SB.p2 {w3 W W' : World} {L g gt gy gx bx : Nat} {BX : Array Value} {pB : Option Addr} {nB : Nat} {own : Nat → Nat} {m : PD} {t : TP} {m2 : PD} {t2 : TP} (h2 : At 44 W bx BX) (h3 : own bx = lawM) (h4 : bx ≠ gy) (h5 : bx ≠ gx) (h6 : LB W own gy gx pB nB) (hp : P2 w3 W L g gt gy gx own m t m2 t2 W') : SB w3 L g gt gy gx bx BX pB nB m t m2 t2 W' :=
  ⟨own, hp.1, h2.ch hp.2 (fun e => e.elim h4 h5), h3, h4, h5, h6.p2 hp.2⟩

end Go.Proofs.YtpjhadaiodnnaaaGreat.M
end

section
namespace Go.Proofs.YtpjhadaiodnnaaaGreat.M
open Go.ChangeShapes Go.WideShapes Go.ChangeAt Go.RowKit
set_option linter.unusedSimpArgs false

theorem room_num (nn : Int) : ∃ N : Nat, wrap64 (1 + wrap64 ((IntKind.u64.wrap nn).tmod 1048576)) = (N : Int) ∧ 1 ≤ N ∧ N ≤ 1048576 := by
  have h0 : 0 ≤ IntKind.u64.wrap nn := by rw [IntKind.wrap_u64]; omega
  have h1 : (IntKind.u64.wrap nn).tmod 1048576 = IntKind.u64.wrap nn % 1048576 := Int.tmod_eq_emod_of_nonneg h0
  have h2 : 0 ≤ IntKind.u64.wrap nn % 1048576 ∧ IntKind.u64.wrap nn % 1048576 < 1048576 := by omega
  rw [h1]
  generalize IntKind.u64.wrap nn % 1048576 = x at h2
  refine ⟨(1 + x).toNat, ?_, by omega, by omega⟩
  unfold wrap64
  omega

theorem one_list (w : World) (p : Option Addr) (n c : Nat) (ls : List Tv) (hl : RdT w p n ls) :
    RdTT (w.alloc (.cells #[.slice p n c] 22)) (some ⟨w.heap.size, 0, none⟩) 1 [ls] ∧ Below w.heap.size w (w.alloc (.cells #[.slice p n c] 22)) := by
  have h1 := below_alloc w (.cells #[.slice p n c] 22)
  have hA := At.new 22 w #[.slice p n c]
  refine ⟨⟨rfl, fun _ => ⟨w.heap.size, 0, rfl, fun j hj => ?_⟩⟩, h1⟩
  match j, hj with
  | 0, _ => exact ⟨p, n, c, hA.cell 0, hl.below h1⟩

theorem New_P (w : World) (R : Nat) (h1 : 1 ≤ R) (h2 : R ≤ 4194304) : Calls Tryz.prog 6 #[.int .i64 R] w fun e w' => ∃ g, e = .returned (.tuple #[.pointer (some ⟨g, 0, none⟩), .int .i64 0]) ∧ (∃ own d, DS w' w.heap.size 0 g own d (pd0 R)) ∧ Below w.heap.size w w' := by
  refine (New_ok w 0 R h1 h2).mono ?_
  rintro e w1 ⟨rfl, h1, hb1⟩
  exact ⟨_, rfl, ⟨_, _, h1, hb1.size, Nat.le_refl _, fun _ _ => rfl⟩, hb1⟩

/-- Between the rounds. -/
def LI (w3 wr : World) (L g gy j : Nat) (v9 v11 : Value) : Prop := ∃ (cz : Int) (gt gx : Nat) (own : Nat → Nat) (m : PD) (t : TP), v9 = opT cz gt ∧ v11 = opT cz gx ∧ PB w3 wr L g gt gy gx own m t m t ∧ Pd m (100000 + 30000 * j) ∧ Pt t (500000 + j) ∧ m.down = false

/-- Both disks opened anew. -/
theorem LI.opened {w3 W : World} {L g gt gy gx j S : Nat} {own : Nat → Nat} {m : PD} (h : PB w3 W L g gt gy gx own (opM m).2.1 (opM m).2.2 (opM m).2.1 (opM m).2.2) (hd : Pd m S) (hS : S + 9000 ≤ 100000 + 30000 * j) (hj : j ≤ 60) (hl : m.left = 0) (hw : m.down = false) : LI w3 W L g gy j (opT (opM m).1 gt) (opT (opM m).1 gx) := by
  obtain ⟨h1, h2, _⟩ := open_pz hd (N := 500000) (by omega) (by omega)
  exact ⟨_, gt, gx, own, _, _, rfl, rfl, h, h1.mono (by omega), h2.mono (by omega), opM_up hl hw⟩

theorem LI.below {w3 W W' : World} {L g gy j : Nat} {v9 v11 : Value} (h : LI w3 W L g gy j v9 v11) (hb : Below W.heap.size W W') : LI w3 W' L g gy j v9 v11 := by
  obtain ⟨cz, gt, gx, own, m, t, e1, e2, h1, h2⟩ := h
  exact ⟨cz, gt, gx, own, m, t, e1, e2, h1.below hb, h2⟩

theorem LI.tells {w3 W : World} {L g gy j : Nat} {v9 v11 : Value} (h : LI w3 W L g gy j v9 v11) (hj : j ≤ 60) :
    Calls Tryz.prog 10 #[v9, v11] W fun e W' => e = .returned (.bool true) ∧ Below W.heap.size W W' := by
  obtain ⟨cz, gt, gx, own, m, t, rfl, rfl, h1, h2, h3, h4⟩ := h
  exact h1.tells cz (fun _ => ⟨_, h3, by omega⟩)

theorem LI.face {w3 W : World} {L g gy j : Nat} {v9 v11 : Value} (h : LI w3 W L g gy j v9 v11) (hj : j ≤ 60) :
    Calls Tryz.prog 24 #[.pointer (some ⟨g, 0, none⟩), .pointer (some ⟨gy, 0, none⟩)] W fun e W' => e = .returned (.bool true) ∧ Below W.heap.size W W' := by
  obtain ⟨cz, gt, gx, own, m, t, rfl, rfl, h1, h2, h3, h4⟩ := h
  exact h1.face h2 (by omega) h4

theorem LI.bel {w3 W : World} {L g gy j : Nat} {v9 v11 : Value} (h : LI w3 W L g gy j v9 v11) : Below L w3 W ∧ L ≤ W.heap.size := by
  obtain ⟨cz, gt, gx, own, m, t, _, _, h1, _⟩ := h
  exact ⟨h1.bel, h1.ts.o.lw⟩

theorem szT_step (ls : List Tv) (j : Nat) : szT ls (j + 1) = szT ls j + (ls.getD j .z0).sz := rfl

theorem szT_mono (ls : List Tv) : ∀ k j, j ≤ k → szT ls j ≤ szT ls k
  | 0, j, h => by rw [Nat.le_zero.1 h]; exact Nat.le_refl _
  | k + 1, j, h => by
    rcases Nat.lt_or_ge j (k + 1) with h1 | h1
    · have := szT_mono ls k j (by omega)
      rw [szT_step]
      omega
    · rw [show j = k + 1 by omega]
      exact Nat.le_refl _

theorem Pd.on {m : PD} {S : Nat} (h : Pd m S) : Pd { m with down := false } S := ⟨h.r0, h.r1, h.f, h.keep, h.left⟩

theorem LI.mk0 {w3 W : World} {L g gt gy gx j : Nat} {own : Nat → Nat} {m : PD} {t : TP} (h : PB w3 W L g gt gy gx own m t m t) (hd : Pd m (100000 + 30000 * j)) (ht : Pt t (500000 + j)) (hw : m.down = false) : LI w3 W L g gy j (.pointer (some ⟨gt, 0, none⟩)) (.pointer (some ⟨gx, 0, none⟩)) :=
  ⟨0, gt, gx, own, m, t, by unfold opT; rw [if_pos rfl], by unfold opT; rw [if_pos rfl], h, hd, ht, hw⟩

/-- A store of a byte into the law's bytes. -/
theorem SB.setB {w3 W : World} {L g gt gy gx bx : Nat} {BX : Array Value} {pB : Option Addr} {nB : Nat} {m : PD} {t : TP} {m2 : PD} {t2 : TP} {op : Int} {b : Nat} (h : SB w3 L g gt gy gx bx BX pB nB m t m2 t2 W) (hb0 : BX[0]? = some (.int .i64 op)) (h0 : 0 < nB) (hp : pB = some ⟨b, 0, none⟩) (k : Nat) (v : Int) : SB w3 L g gt gy gx bx BX pB nB m t m2 t2 (W.setCell ⟨b, k, none⟩ (.int .u8 v)) := by
  obtain ⟨own, h1, h2, h3, h4, h5, h6⟩ := h
  have hl := h6.lw _ hp h0
  have hc := Ch.setCell W ⟨b, k, none⟩ (.int .u8 v)
  have hne : ¬ bx = b := fun e => by
    obtain ⟨b2, e2, hM⟩ := h6.mu h0
    rw [hp] at e2
    cases e2
    obtain ⟨u, hu⟩ := hM.cells 0 h0
    rw [← e, h2.cell 0, hb0] at hu
    cases hu
  have hid : ∀ j, mkO own (fun _ => false) j = own j := fun j => mkO_no rfl
  refine ⟨mkO own (fun _ => false), h1.law hc (fun j e => by rw [e]; exact hl) _ (fun j e => by cases e), h2.ch hc hne, (hid bx).trans h3, h4, h5, h6.mu.set b k v, fun x e h9 => by rw [hid]; exact h6.lw x e h9⟩

theorem SB.s0 {w3 W : World} {L g gt gy gx bx : Nat} {BX : Array Value} {pB : Option Addr} {nB : Nat} {m : PD} {t : TP} {m2 : PD} {t2 : TP} (h : SB w3 L g gt gy gx bx BX pB nB m t m2 t2 W) : At 44 W bx BX ∧ Below L w3 W := by
  obtain ⟨own, h1, h2, _⟩ := h
  exact ⟨h2, h1.bel⟩

theorem PB.arm1_low {w3 W : World} {L g gt gy gx : Nat} {own : Nat → Nat} {m : PD} {t : TP} {m2 : PD} {t2 : TP} (h : PB w3 W L g gt gy gx own m t m2 t2) (hr : 0 < m.room) (hw : m.down = false) (n : Int) (hn : n < 1) (q : Option Addr) (l c : Nat) :
    Calls Tryz.prog 19 #[.pointer (some ⟨g, 0, none⟩), .int .i64 n, .slice q l c] W fun e W' => e = .returned (.int .i64 1) ∧ W' = W := by
  obtain ⟨d, pb, nb, cb, pr, cr, vs, Bv, h1, _⟩ := h.ts
  exact Arm_low W L own 0 g d m h1.da hr hw n hn q l c

theorem PB.arm2_low {w3 W : World} {L g gt gy gx : Nat} {own : Nat → Nat} {m : PD} {t : TP} {m2 : PD} {t2 : TP} (h : PB w3 W L g gt gy gx own m t m2 t2) (hw : m2.down = false) (n : Int) (hn : n < 1) (q : Option Addr) (l c : Nat) :
    Calls Tryz.prog 20 #[.pointer (some ⟨gy, 0, none⟩), .int .i64 n, .slice q l c] W fun e W' => e = .returned (.int .i64 1) ∧ W' = W := by
  obtain ⟨k, p, c2, h1⟩ := h.rx
  exact rArm_low W gy m2 k h1.rd hw n hn q l c

theorem SB.cell {w3 W : World} {L g gt gy gx bx : Nat} {BX : Array Value} {pB : Option Addr} {nB : Nat} {m : PD} {t : TP} {m2 : PD} {t2 : TP} (h : SB w3 L g gt gy gx bx BX pB nB m t m2 t2 W) (h0 : 0 < nB) : ∃ b, pB = some ⟨b, 0, none⟩ ∧ ∀ k, k < nB → (∃ v : Int, W.cell? ⟨b, k, none⟩ = some (.int .u8 v)) ∧ W.frozen? ⟨b, k, none⟩ = false := by
  obtain ⟨own, h1, h2, h3, h4, h5, h6⟩ := h
  obtain ⟨b, e, hM⟩ := h6.mu h0
  exact ⟨b, e, fun k hk => ⟨hM.cells k hk, hM.free k⟩⟩

end Go.Proofs.YtpjhadaiodnnaaaGreat.M
end

section
namespace Go.Proofs.YtpjhadaiodnnaaaGreat.M
open Go.ChangeShapes Go.WideShapes Go.ChangeAt Go.RowKit
set_option linter.unusedSimpArgs false

set_option maxRecDepth 20000 in
set_option maxHeartbeats 1000000 in
theorem texts_any (p : Option Addr) (n c : Nat) (vs : List Value) (xss : List (List Int)) (w : World) (hv : RdV w p n c vs) (hs : Sls w vs xss) (hn : n = xss.length) (hfew : n ≤ 1000000) :
    Calls Tryz.prog 16 #[.slice p n c] w fun e w' => ∃ p' c', e = .returned (.slice p' n c') ∧ OwV 9 w' w.heap.size p' n c' (strs xss) ∧ Below w.heap.size w w' := by
  obtain ⟨i0, hi0, hz0, hz1, hz2⟩ := info_parts infoT
  have HN : Hid (n = xss.length) := hn
  have HV : Hid (RdV w p n c vs) := hv
  have HS : Hid (Sls w vs xss) := hs
  clear hn hv hs
  go_enter Tryz.func16, Tryz.ntmps16
  go_wp2_with fail
  go_loopw [8, 3] (fun ix l wr => ∃ (k : Nat) (p' : Option Addr) (c' : Nat), k ≤ n ∧ ix = .int .i64 k ∧ l = .slice p' k c' ∧ OwV 9 wr w.heap.size p' k c' (strs (xss.take k)) ∧ Below w.heap.size w wr) (fun ix _ _ => n - (intOf ix).toNat)
  case atStart => exact ⟨0, none, 0, by omega, rfl, rfl, OwV.empty _ _ _ _, Below.refl _ _⟩
  case round =>
    obtain ⟨k, p', c', hk, rfl, rfl, ho, hb⟩ := hrel
    by_cases hkn : k < n
    · have hki : (k : Int) < (n : Int) := by omega
      have hkr : k < xss.length := by rw [← HN.out]; exact hkn
      obtain ⟨b, o, rfl, hcl⟩ := HV.out.cells (by omega)
      obtain ⟨q, m, d, hq, hr⟩ := HS.out.2 k (by rw [HS.out.1]; exact hkr)
      have hcx := cell_below hb (hcl k hkn)
      rw [hq] at hcx
      obtain ⟨ys, hys⟩ : ∃ z, Hid (z = xss.getD k []) := ⟨_, rfl⟩
      rw [← hys.out] at hr
      have hst := (hr.below' hb).str
      have hcz : (wr.alloc (.cells #[.string (strOfNums ys)] 9)).cell? ⟨wr.heap.size, 0, none⟩ = some (.string (strOfNums ys)) := by simp
      have hsz := hb.size
      clear hcl hq hr
      go_wp2_with (refine wpList_appV _ rfl (.tmp 12) (.tmp 15) 49 rfl 9 i0 (.string ByteArray.empty) 16 Tryz.underlying49 hi0 hz0 hz1 hz2 rfl w.heap.size p' k c' _ rfl (ho.below (below_alloc _ _)) _ _ _ _ rfl hcz rfl ?b1 ?b2 ?b3 ?_)
      case b1 => omega
      case b2 => unfold maxLen; omega
      case b3 => (simp; omega)
      intro p3 c3 w6 ho3 hb3 hk3
      have hbb3 := (hb.alloc hb.size (.cells #[.string (strOfNums ys)] 9)).trans hb3
      have HO3 : Hid (OwV 9 w6 w.heap.size p3 (k + 1) c3 (strs (xss.take (k + 1)))) := by
        show OwV _ _ _ _ _ _ _
        rw [strs_snoc hkr, ← hys.out]
        exact ho3
      clear ho3 ho hb hb3 hk3 hst hcz hcx
      go_wp2_with fail
      go_roundw
      case rel => exact ⟨k + 1, p3, c3, by omega, by go_num, by go_num, HO3.out, hbb3⟩
      case measure => simp [intOf]; omega
    · have hki : ¬ (k : Int) < (n : Int) := by omega
      obtain rfl : k = n := by omega
      have HO : Hid (OwV 9 wr w.heap.size p' k c' (strs xss) ∧ Below w.heap.size w wr) := by
        have h1 : xss.take k = xss := List.take_of_length_le (by rw [← HN.out]; exact Nat.le_refl _)
        rw [h1] at ho
        exact ⟨ho, hb⟩
      clear ho hb
      go_wp2_with fail
      go_ret
      exact ⟨p', c', rfl, HO.out.1, HO.out.2⟩

/-- A reel's bytes are not many more than what it is made of. -/
theorem flat_cost : ∀ (l : List (List Int)) (k : Nat), k ≤ l.length → lsz l k ≤ 16384 → (((l.take k).map sealL).flatten).length ≤ 4 * lsz l k
  | _, 0, _, _ => by simp
  | l, k + 1, hk, h => by
    have e : lsz l (k + 1) = lsz l k + (4 + min (l.getD k []).length 16385) := rfl
    have ih := flat_cost l k (by omega) (by omega)
    rw [flat_take (show k < l.length by omega), List.length_append]
    have hl : (l.getD k []).length ≤ 16384 := by omega
    have hs : (sealL (l.getD k [])).length ≤ (l.getD k []).length + 14 := by
      rw [length_sealL]
      have := putL_len (m := (l.getD k []).length) (by omega)
      omega
    omega

theorem sealR_cost {g : Int} {base : List Int} {l : List (List Int)} (hg : g ≤ 1099511627777) (h : lsz l l.length ≤ 16384) (hb : base.length ≤ 16384) : (sealR ⟨g, base, l⟩).length ≤ 60 + base.length + 4 * lsz l l.length := by
  unfold sealR
  rw [List.length_append]
  have h1 := flat_cost l l.length (Nat.le_refl _) h
  rw [List.take_length] at h1
  have h4 := lsz_ge l l.length
  have h5 : (headR ⟨g, base, l⟩).length ≤ 30 + base.length := by
    rw [headR_hd]
    show (hdR g.toNat l.length base).length ≤ _
    unfold hdR
    rw [List.length_append, List.length_append, List.length_append]
    have k1 := putL_len (m := g.toNat) (by omega)
    have k2 := putL_len (m := l.length) (by omega)
    have k3 := putL_len (m := base.length) (by omega)
    omega
  have h6 : (sealL (headR ⟨g, base, l⟩)).length ≤ (headR ⟨g, base, l⟩).length + 14 := by
    rw [length_sealL]
    have := putL_len (m := (headR ⟨g, base, l⟩).length) (by omega)
    omega
  show (sealL (headR ⟨g, base, l⟩)).length + ((l.map sealL).flatten).length ≤ _
  omega

theorem lsz_mono (l : List (List Int)) : ∀ n k, k ≤ n → lsz l k ≤ lsz l n
  | 0, k, h => by rw [Nat.le_zero.1 h]; exact Nat.le_refl _
  | n + 1, k, h => by
    rcases Nat.lt_or_ge k (n + 1) with h1 | h1
    · have := lsz_mono l n k (by omega)
      show _ ≤ lsz l n + (4 + min (l.getD n []).length 16385)
      omega
    · rw [show k = n + 1 by omega]
      exact Nat.le_refl _

theorem lsz_each {l : List (List Int)} {n k : Nat} (hk : k < n) (h : lsz l n ≤ 16384) : (l.getD k []).length ≤ 16384 := by
  have h1 := lsz_mono l n (k + 1) hk
  have h2 : lsz l (k + 1) = lsz l k + (4 + min (l.getD k []).length 16385) := rfl
  omega

theorem take_snocL {l : List (List Int)} {k : Nat} (h : k < l.length) : l.take (k + 1) = l.take k ++ [l.getD k []] := by
  rw [List.take_add_one, List.getD_eq_getElem?_getD, List.getElem?_eq_getElem h]
  rfl

/-- The law's own list of rows of bytes, that it may write over. -/
structure LG (W : World) (own : Nat → Nat) (gy gx : Nat) (pG : Option Addr) (nG cG : Nat) (vs : List Value) : Prop where
  rd : RdV W pG nG cG vs
  at0 : ∀ x, pG = some x → 0 < nG → x.off = 0
  lw : ∀ x, pG = some x → 0 < nG → own x.block = lawM ∧ x.block ≠ gy ∧ x.block ≠ gx
  each : ∀ k, k < nG → ∃ p n c, vs.getD k undef = .slice p n c ∧ n ≤ 16384 ∧ LB W own gy gx p n

theorem LG.below {W W' : World} {own : Nat → Nat} {gy gx : Nat} {pG : Option Addr} {nG cG : Nat} {vs : List Value} (h : LG W own gy gx pG nG cG vs) (hb : Below W.heap.size W W') : LG W' own gy gx pG nG cG vs :=
  ⟨h.rd.below hb, h.at0, h.lw, fun k hk => by obtain ⟨p, n, c, e, h0, h1⟩ := h.each k hk; exact ⟨p, n, c, e, h0, h1.below hb⟩⟩

theorem LG.p1 {W W' : World} {own own2 : Nat → Nat} {g gy gx : Nat} {pG : Option Addr} {nG cG : Nat} {vs : List Value} (h : LG W own gy gx pG nG cG vs) (hg : own g = 0) (ho : ∀ k, k < W.heap.size → own2 k = own k) (hc : Ch (fun k => ¬ Fg2 own g k) W W') : LG W' own2 gy gx pG nG cG vs :=
  ⟨h.rd.ch0 hc (fun x e h0 e2 => e2 ⟨Or.inr (h.lw x e h0).1, fun e3 => by have h1 := (h.lw x e h0).1; rw [e3, hg] at h1; cases h1⟩), h.at0, fun x e h0 => ⟨(ho _ (h.rd.ltb x e h0)).trans (h.lw x e h0).1, (h.lw x e h0).2⟩, fun k hk => by obtain ⟨p, n, c, e, h0, h1⟩ := h.each k hk; exact ⟨p, n, c, e, h0, h1.p1 hg ho hc⟩⟩

theorem LG.p2 {W W' : World} {own : Nat → Nat} {gy gx : Nat} {pG : Option Addr} {nG cG : Nat} {vs : List Value} (h : LG W own gy gx pG nG cG vs) (hc : Ch (fun k => k = gy ∨ k = gx) W W') : LG W' own gy gx pG nG cG vs :=
  ⟨h.rd.ch0 hc (fun x e h0 e2 => e2.elim (h.lw x e h0).2.1 (h.lw x e h0).2.2), h.at0, h.lw, fun k hk => by obtain ⟨p, n, c, e, h0, h1⟩ := h.each k hk; exact ⟨p, n, c, e, h0, h1.p2 hc⟩⟩

/-- SB, and the list. -/
def SG (w3 : World) (L g gt gy gx bx : Nat) (BX : Array Value) (pB : Option Addr) (nB : Nat) (pG : Option Addr) (nG cG : Nat) (vs : List Value) (m : PD) (t : TP) (m2 : PD) (t2 : TP) (W : World) : Prop := ∃ own, PB w3 W L g gt gy gx own m t m2 t2 ∧ At 44 W bx BX ∧ own bx = lawM ∧ bx ≠ gy ∧ bx ≠ gx ∧ LB W own gy gx pB nB ∧ LG W own gy gx pG nG cG vs

theorem SG.sb {w3 W : World} {L g gt gy gx bx : Nat} {BX : Array Value} {pB : Option Addr} {nB : Nat} {pG : Option Addr} {nG cG : Nat} {vs : List Value} {m : PD} {t : TP} {m2 : PD} {t2 : TP} (h : SG w3 L g gt gy gx bx BX pB nB pG nG cG vs m t m2 t2 W) : SB w3 L g gt gy gx bx BX pB nB m t m2 t2 W := by
  obtain ⟨own, h1, h2, h3, h4, h5, h6, _⟩ := h
  exact ⟨own, h1, h2, h3, h4, h5, h6⟩

theorem SG.stays {w3 : World} {L g gt gy gx bx : Nat} {BX : Array Value} {pB : Option Addr} {nB : Nat} {pG : Option Addr} {nG cG : Nat} {vs : List Value} {m : PD} {t : TP} {m2 : PD} {t2 : TP} : Stays (SG w3 L g gt gy gx bx BX pB nB pG nG cG vs m t m2 t2) := fun _ _ h hb => by
  obtain ⟨own, h1, h2, h3, h4, h5, h6, h7⟩ := h
  exact ⟨own, h1.below hb, h2.below hb, h3, h4, h5, h6.below hb, h7.below hb⟩

theorem SG.s0 {w3 W : World} {L g gt gy gx bx : Nat} {BX : Array Value} {pB : Option Addr} {nB : Nat} {pG : Option Addr} {nG cG : Nat} {vs : List Value} {m : PD} {t : TP} {m2 : PD} {t2 : TP} (h : SG w3 L g gt gy gx bx BX pB nB pG nG cG vs m t m2 t2 W) : At 44 W bx BX ∧ Below L w3 W := h.sb.s0

theorem SG.p1 {w3 W W' : World} {L g gt gy gx bx : Nat} {BX : Array Value} {pB : Option Addr} {nB : Nat} {pG : Option Addr} {nG cG : Nat} {vs : List Value} {own : Nat → Nat} {m m' : PD} {t t' : TP} {m2 : PD} {t2 : TP} (h : PB w3 W L g gt gy gx own m t m2 t2) (h2 : At 44 W bx BX) (h3 : own bx = lawM) (h4 : bx ≠ gy) (h5 : bx ≠ gx) (h6 : LB W own gy gx pB nB) (h7 : LG W own gy gx pG nG cG vs) (hp : P1 w3 W L g gt gy gx own m' t' m2 t2 W') : SG w3 L g gt gy gx bx BX pB nB pG nG cG vs m' t' m2 t2 W' := by
  obtain ⟨own2, k1, k2, k3⟩ := hp
  exact ⟨own2, k1, h2.ch k3 (fun e => e ⟨Or.inr h3, h.ts.ne h3⟩), (k2 bx h2.lt).trans h3, h4, h5, h6.p1 h.og k2 k3, h7.p1 h.og k2 k3⟩

theorem SG.p2 {w3 W W' : World} {L g gt gy gx bx : Nat} {BX : Array Value} {pB : Option Addr} {nB : Nat} {pG : Option Addr} {nG cG : Nat} {vs : List Value} {own : Nat → Nat} {m : PD} {t : TP} {m2 : PD} {t2 : TP} (h2 : At 44 W bx BX) (h3 : own bx = lawM) (h4 : bx ≠ gy) (h5 : bx ≠ gx) (h6 : LB W own gy gx pB nB) (h7 : LG W own gy gx pG nG cG vs) (hp : P2 w3 W L g gt gy gx own m t m2 t2 W') : SG w3 L g gt gy gx bx BX pB nB pG nG cG vs m t m2 t2 W' :=
  ⟨own, hp.1, h2.ch hp.2 (fun e => e.elim h4 h5), h3, h4, h5, h6.p2 hp.2, h7.p2 hp.2⟩

theorem Ow.mutS {w : World} {B : Nat} {p : Option Addr} {n c : Nat} {xs : List Int} (h : Ow .u8 5 w B p n c xs) : MutS w p n ∧ ∀ x, p = some x → 0 < n → B ≤ x.block ∧ x.block < w.heap.size := by
  refine ⟨fun h0 => ?_, fun x e h0 => h.ltC' x e h0⟩
  rcases h.own with ⟨h1, _⟩ | ho
  · omega
  · obtain ⟨b, e, _, _, hm⟩ := OwS.mut (show OwS .u8 5 w B p n c xs from ho) h0
    exact ⟨b, e, hm⟩

theorem OwV.at0 {e : TypeId} {w : World} {B : Nat} {p : Option Addr} {n c : Nat} {vs : List Value} (h : OwV e w B p n c vs) : ∀ x, p = some x → 0 < n → x.off = 0 := fun x ex h0 => by
  rcases h.own with ⟨h1, _⟩ | ho
  · omega
  · rcases ho.2 with ⟨hv, _⟩ | ⟨g, cap, cur, hv, _⟩
    · injection hv with e1
      rw [ex] at e1
      cases e1
    · injection hv with e1
      rw [ex] at e1
      cases e1
      rfl

/-- Rows that the law has made since. -/
theorem SG.init {w3 W W' : World} {L g gt gy gx bx : Nat} {BX : Array Value} {pB : Option Addr} {nB : Nat} {pG : Option Addr} {nG cG : Nat} {vs : List Value} {xss : List (List Int)} {own : Nat → Nat} {m : PD} {t : TP} {m2 : PD} {t2 : TP} (h : PB w3 W L g gt gy gx own m t m2 t2) (h2 : At 44 W bx BX) (h3 : own bx = lawM) (h4 : bx ≠ gy) (h5 : bx ≠ gx) (h6 : LB W own gy gx pB nB)
    (hO : OwV 40 W' W.heap.size pG nG cG vs) (hS : Slo 5 W' W.heap.size vs xss) (hl : ∀ d ∈ xss, d.length ≤ 16384) (hb : Below W.heap.size W W') : SG w3 L g gt gy gx bx BX pB nB pG nG cG vs m t m2 t2 W' := by
  have hmk : ∀ k, W.heap.size ≤ k → k < W'.heap.size → mkO own (fun k => decide (W.heap.size ≤ k ∧ k < W'.heap.size)) k = lawM := fun k k1 k2 => mkO_yes (decide_eq_true ⟨k1, k2⟩)
  have hlow : ∀ k, k < W.heap.size → mkO own (fun k => decide (W.heap.size ≤ k ∧ k < W'.heap.size)) k = own k := fun k hk => mkO_no (decide_eq_false (by omega))
  have hlt := h.lts
  refine ⟨_, h.law (Ch.of_below hb (fun _ => False)) (fun k e => e.elim) _ (fun k e => of_decide_eq_true e), h2.below hb, (hlow bx h2.lt).trans h3, h4, h5, ⟨h6.mu.below hb, fun x e h0 => ⟨(hlow _ (h6.mu.lt x e h0)).trans (h6.lw x e h0).1, (h6.lw x e h0).2⟩⟩, hO.rd, hO.at0, fun x e h0 => ?_, fun k hk => ?_⟩
  · obtain ⟨k1, k2⟩ := hO.ltC x e (Nat.lt_of_lt_of_le h0 hO.cap)
    exact ⟨hmk _ k1 k2, by omega, by omega⟩
  · obtain ⟨p, n, c, e, ho⟩ := hS.2 k (by rw [hO.len]; exact hk)
    obtain ⟨k1, k2⟩ := ho.mutS
    refine ⟨p, n, c, e, ?_, k1, fun x e h0 => ?_⟩
    · have hx := all_getD (P := fun d => d.length ≤ 16384) hl k (by rw [← hS.1, hO.len]; exact hk)
      rw [ho.len] at hx
      exact hx
    · obtain ⟨k3, k4⟩ := k2 x e h0
      exact ⟨hmk _ k3 k4, by omega, by omega⟩

/-- The list's row number k. -/
theorem SG.row {w3 W : World} {L g gt gy gx bx : Nat} {BX : Array Value} {pB : Option Addr} {nB : Nat} {pG : Option Addr} {nG cG : Nat} {vs : List Value} {m : PD} {t : TP} {m2 : PD} {t2 : TP} (h : SG w3 L g gt gy gx bx BX pB nB pG nG cG vs m t m2 t2 W) {k : Nat} (hk : k < nG) : ∃ b o p n c, pG = some ⟨b, o, none⟩ ∧ W.cell? ⟨b, o + k, none⟩ = some (.slice p n c) ∧ vs.getD k undef = .slice p n c ∧ n ≤ 16384 := by
  obtain ⟨own, h1, h2, h3, h4, h5, h6, h7⟩ := h
  obtain ⟨b, o, e, hc⟩ := h7.rd.cells (by omega)
  obtain ⟨p, n, c, e2, h0, _⟩ := h7.each k hk
  exact ⟨b, o, p, n, c, e, by rw [hc k hk, e2], e2, h0⟩

theorem SG.cellR {w3 W : World} {L g gt gy gx bx : Nat} {BX : Array Value} {pB : Option Addr} {nB : Nat} {pG : Option Addr} {nG cG : Nat} {vs : List Value} {m : PD} {t : TP} {m2 : PD} {t2 : TP} (h : SG w3 L g gt gy gx bx BX pB nB pG nG cG vs m t m2 t2 W) {k n c : Nat} {p : Option Addr} (hk : k < nG) (e : vs.getD k undef = .slice p n c) (h0 : 0 < n) : ∃ b, p = some ⟨b, 0, none⟩ ∧ ∀ i, i < n → (∃ v : Int, W.cell? ⟨b, i, none⟩ = some (.int .u8 v)) ∧ W.frozen? ⟨b, i, none⟩ = false := by
  obtain ⟨own, h1, h2, h3, h4, h5, h6, h7⟩ := h
  obtain ⟨p2, n2, c2, e2, _, h8⟩ := h7.each k hk
  rw [e] at e2
  cases e2
  obtain ⟨b, e, hM⟩ := h8.mu h0
  exact ⟨b, e, fun i hi => ⟨hM.cells i hi, hM.free i⟩⟩

/-- A store of a byte into a row of the list. -/
theorem SG.setR {w3 W : World} {L g gt gy gx bx : Nat} {BX : Array Value} {pB : Option Addr} {nB : Nat} {pG : Option Addr} {nG cG : Nat} {vs : List Value} {m : PD} {t : TP} {m2 : PD} {t2 : TP} {op : Int} {b k n c : Nat} {p : Option Addr} (h : SG w3 L g gt gy gx bx BX pB nB pG nG cG vs m t m2 t2 W) (hb0 : BX[0]? = some (.int .i64 op)) (hk : k < nG) (e : vs.getD k undef = .slice p n c) (h0 : 0 < n) (hp : p = some ⟨b, 0, none⟩) (i : Nat) (v : Int) : SG w3 L g gt gy gx bx BX pB nB pG nG cG vs m t m2 t2 (W.setCell ⟨b, i, none⟩ (.int .u8 v)) := by
  obtain ⟨own, h1, h2, h3, h4, h5, h6, h7⟩ := h
  obtain ⟨p2, n2, c2, e2, _, h8⟩ := h7.each k hk
  rw [e] at e2
  cases e2
  have hl := h8.lw _ hp h0
  have hc := Ch.setCell W ⟨b, i, none⟩ (.int .u8 v)
  obtain ⟨b2, e2, hM⟩ := h8.mu h0
  rw [hp] at e2
  cases e2
  obtain ⟨u, hu⟩ := hM.cells 0 h0
  have hne : ¬ bx = b := fun e => by
    rw [← e, h2.cell 0, hb0] at hu
    cases hu
  have hneG : ∀ x, pG = some x → 0 < nG → ¬ x.block = b := fun x ex hG ee => by
    obtain ⟨b3, o3, e3, hc3⟩ := h7.rd.cells hG
    rw [ex] at e3
    cases e3
    obtain ⟨q, m, d, e4, _⟩ := h7.each 0 hG
    have h9 := hc3 0 hG
    rw [e4, Nat.add_zero] at h9
    dsimp only at ee
    rw [ee] at h9
    have hf : o3 < n → False := fun ho => by
      obtain ⟨u2, hu2⟩ := hM.cells o3 ho
      rw [hu2] at h9
      cases h9
    have h10 := h7.at0 _ ex hG
    dsimp only at h10
    exact hf (by omega)
  have hid : ∀ j, mkO own (fun _ => false) j = own j := fun j => mkO_no rfl
  refine ⟨mkO own (fun _ => false), h1.law hc (fun j e => by rw [e]; exact hl) _ (fun j e => by cases e), h2.ch hc hne, (hid bx).trans h3, h4, h5, ⟨h6.mu.set b i v, fun x e h9 => by rw [hid]; exact h6.lw x e h9⟩, h7.rd.ch0 hc hneG, h7.at0, fun x e h9 => by rw [hid]; exact h7.lw x e h9, fun j hj => ?_⟩
  obtain ⟨q, m, d, e4, h9, h10⟩ := h7.each j hj
  exact ⟨q, m, d, e4, h9, h10.mu.set b i v, fun x e h9 => by rw [hid]; exact h10.lw x e h9⟩

end Go.Proofs.YtpjhadaiodnnaaaGreat.M
end
