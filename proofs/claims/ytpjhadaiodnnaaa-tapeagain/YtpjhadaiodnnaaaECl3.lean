/-
  Own text: Clone of a disk: the clone's memory is all new.
-/
import Derived.Test.YtpjhadaiodnnaaaECl2
namespace Go.Proofs.Ytpjhadaiodnnaaa.M
open Go.ChangeShapes Go.WideShapes Go.ChangeAt Go.RowKit

set_option linter.unusedSimpArgs false in
set_option maxRecDepth 20000 in
set_option maxHeartbeats 2000000 in
theorem Clone_new (w : World) (B : Nat) (own : Nat → Nat) (a b g : Nat) (d : Dk) (m : PD) (s : Nat) (h : DA w B own a g d m) (hm : m.ok s) (hs : s ≤ 549755813888) (_hB : B ≤ w.heap.size) :
    Calls Try.prog 29 #[.pointer (some ⟨g, 0, none⟩)] w fun e w' => ∃ gc own2 d2, e = .returned (.pointer (some ⟨gc, 0, none⟩)) ∧ w.heap.size ≤ gc ∧ gc < w'.heap.size ∧ DA w' w.heap.size own2 b gc d2 m ∧ (∀ k, k < w.heap.size → own2 k = 0) ∧ (∀ x, d2.kp = some x → w.heap.size ≤ x.block) ∧ Below w.heap.size w w' := by
  have hM := made_any w g d h.dc (by rw [h.room]; exact hm.r0)
  have hS0 : QS w g d m.keep w.drew := QS.stays w g d m.keep _ _ ⟨h.dc, h.keep, Below.refl _ _⟩ (Below.refl _ _).drew
  have hkl : d.kn ≤ 1099511627776 := by rw [← h.keep.len]; have := hm.keep; omega
  go_enter Try.func29, Try.ntmps29
  go_wp2_with fail
  refine hM.mono ?_
  rintro e w1 ⟨rfl, rfl⟩
  go_wp2_with fail
  refine wp_region_det [0, 1, 2, 3, 4, 5, 6, 7, 8, 9, 10, 12] (QS w1 g d m.keep) (QS w1 g d m.keep) (by kernel_rfl) hS0 ?_
  refine wpDet_take ?vC0 (QS.stays w1 g d m.keep) (fun _ h => h) (i := 0) rfl (by kernel_rfl) (by kernel_rfl) (by kernel_rfl) (by kernel_rfl) (fun _ _ _ h => h) (Gives.value (by rfl) ?yC0) ?rC0
  case yC0 => (intro w' hSw; (try dsimp only at hSw); go_simp; try with_reducible rfl)
  (try simp only [Act.put, List.getElem_toArray, List.getElem_cons_zero, List.getElem_cons_succ, List.setIfInBounds_toArray, List.set_cons_zero, List.set_cons_succ])
  refine wpDet_take ?vC1 (QS.stays w1 g d m.keep) (fun _ h => h) (i := 1) rfl (by kernel_rfl) (by kernel_rfl) (by kernel_rfl) (by kernel_rfl) (fun _ _ _ h => h) (Gives.value (by rfl) ?yC1) ?rC1
  case yC1 => (intro w' hSw; (try dsimp only at hSw); go_simp; try with_reducible rfl)
  (try simp only [Act.put, List.getElem_toArray, List.getElem_cons_zero, List.getElem_cons_succ, List.setIfInBounds_toArray, List.set_cons_zero, List.set_cons_succ])
  refine wpDet_take ?vC2 (QS.stays w1 g d m.keep) (fun _ h => h) (i := 2) rfl (by kernel_rfl) (by kernel_rfl) (by kernel_rfl) (by kernel_rfl) (fun _ _ _ h => h) (Gives.value (by rfl) ?yC2) ?rC2
  case yC2 => (intro w' hSw; (try dsimp only at hSw); go_simp; try with_reducible rfl)
  (try simp only [Act.put, List.getElem_toArray, List.getElem_cons_zero, List.getElem_cons_succ, List.setIfInBounds_toArray, List.set_cons_zero, List.set_cons_succ])
  refine wpDet_take ?vC3 (QS.stays w1 g d m.keep) (fun _ h => h) (i := 3) rfl (by kernel_rfl) (by kernel_rfl) (by kernel_rfl) (by kernel_rfl) (fun _ _ _ h => h) (Gives.value (by rfl) ?yC3) ?rC3
  case yC3 => (intro w' hSw; have hq0 := hSw.1.room; (try dsimp only at hSw); go_simp; try with_reducible rfl)
  (try simp only [Act.put, List.getElem_toArray, List.getElem_cons_zero, List.getElem_cons_succ, List.setIfInBounds_toArray, List.set_cons_zero, List.set_cons_succ])
  refine wpDet_take ?vC4 (QS.stays w1 g d m.keep) (fun _ h => h) (i := 4) rfl (by kernel_rfl) (by kernel_rfl) (by kernel_rfl) (by kernel_rfl) (fun _ _ _ h => h) (Gives.value (by rfl) ?yC4) ?rC4
  case yC4 => (intro w' hSw; (try dsimp only at hSw); go_simp; try with_reducible rfl)
  (try simp only [Act.put, List.getElem_toArray, List.getElem_cons_zero, List.getElem_cons_succ, List.setIfInBounds_toArray, List.set_cons_zero, List.set_cons_succ])
  refine wpDet_take ?vC5 (QS.stays w1 g d m.keep) (fun _ h => h) (i := 5) rfl (by kernel_rfl) (by kernel_rfl) (by kernel_rfl) (by kernel_rfl) (fun _ _ _ h => h) (Gives.value (by rfl) ?yC5) ?rC5
  case yC5 => (intro w' hSw; (try dsimp only at hSw); go_simp; try with_reducible rfl)
  (try simp only [Act.put, List.getElem_toArray, List.getElem_cons_zero, List.getElem_cons_succ, List.setIfInBounds_toArray, List.set_cons_zero, List.set_cons_succ])
  refine wpDet_take ?vC6 (QS.stays w1 g d m.keep) (fun _ h => h) (i := 6) rfl (by kernel_rfl) (by kernel_rfl) (by kernel_rfl) (by kernel_rfl) (fun _ _ _ h => h) (Gives.value (by rfl) ?yC6) ?rC6
  case yC6 => (intro w' hSw; (try dsimp only at hSw); go_simp; try with_reducible rfl)
  (try simp only [Act.put, List.getElem_toArray, List.getElem_cons_zero, List.getElem_cons_succ, List.setIfInBounds_toArray, List.set_cons_zero, List.set_cons_succ])
  refine wpDet_take ?vC7 (QS.stays w1 g d m.keep) (fun _ h => h) (i := 7) rfl (by kernel_rfl) (by kernel_rfl) (by kernel_rfl) (by kernel_rfl) (fun _ _ _ h => h) (Gives.value (by rfl) ?yC7) ?rC7
  case yC7 => (intro w' hSw; have hq0 := hSw.1.down; (try dsimp only at hSw); go_simp; try with_reducible rfl)
  (try simp only [Act.put, List.getElem_toArray, List.getElem_cons_zero, List.getElem_cons_succ, List.setIfInBounds_toArray, List.set_cons_zero, List.set_cons_succ])
  refine wpDet_take ?vC8 (QS.stays w1 g d m.keep) (fun _ h => h) (i := 8) rfl (by kernel_rfl) (by kernel_rfl) (by kernel_rfl) (by kernel_rfl) (fun _ _ _ h => h) (Gives.value (by rfl) ?yC8) ?rC8
  case yC8 => (intro w' hSw; (try dsimp only at hSw); go_simp; try with_reducible rfl)
  (try simp only [Act.put, List.getElem_toArray, List.getElem_cons_zero, List.getElem_cons_succ, List.setIfInBounds_toArray, List.set_cons_zero, List.set_cons_succ])
  refine wpDet_take ?vC9 (QS.stays w1 g d m.keep) (fun _ h => h) (i := 9) rfl (by kernel_rfl) (by kernel_rfl) (by kernel_rfl) (by kernel_rfl) (fun _ _ _ h => h) (Gives.value (by rfl) ?yC9) ?rC9
  case yC9 => (intro w' hSw; (try dsimp only at hSw); go_simp; try with_reducible rfl)
  (try simp only [Act.put, List.getElem_toArray, List.getElem_cons_zero, List.getElem_cons_succ, List.setIfInBounds_toArray, List.set_cons_zero, List.set_cons_succ])
  refine wpDet_take ?vC10 (QS.stays w1 g d m.keep) (fun _ h => h) (i := 10) rfl (by kernel_rfl) (by kernel_rfl) (by kernel_rfl) (by kernel_rfl) (fun _ _ _ h => h) (Gives.value (by rfl) ?yC10) ?rC10
  case yC10 => (intro w' hSw; (try dsimp only at hSw); go_simp; try with_reducible rfl)
  (try simp only [Act.put, List.getElem_toArray, List.getElem_cons_zero, List.getElem_cons_succ, List.setIfInBounds_toArray, List.set_cons_zero, List.set_cons_succ])
  refine wpDet_ready (rs := [11]) (by kernel_rfl) (by simp) (AllDet.cons rfl (fun V hV K hK => ?_) AllDet.nil)
  rw [if_pos (by rfl)]
  have hC := fclone_at V g 26 _ _ _ _ m.keep hV.1.left hV.1.keep hV.2.1 hkl
  refine wp_enterX 52 #[.pointer (some ⟨g, 26, none⟩)] (by first | (go_simp; done) | (go_simp; rfl)) (fun v V' => ∃ p' c', v = .agg #[.int .i64 d.left, .slice p' d.kn c'] ∧ Rd .i64 V' p' d.kn c' m.keep ∧ Below V.heap.size V V' ∧ (∀ x, p' = some x → V.heap.size ≤ x.block ∧ x.block < V'.heap.size)) (hC.mono fun e V' ⟨p', c', h1, h2⟩ => ⟨_, h1, p', c', rfl, h2⟩) ?_
  rintro v V' ⟨p', c', rfl, h2, h3, h4⟩
  have hst := QS.stays w1 g d m.keep V V' hV h3
  refine hK.out (fun U => QS w1 g d m.keep U ∧ Rd .i64 U p' d.kn c' m.keep ∧ (∀ x, p' = some x → w1.heap.size ≤ x.block ∧ x.block < U.heap.size)) _ _ (QSR.stays w1 g d m.keep p' c') (fun _ _ h => h.1) ⟨hst, h2, fun x e => ⟨Nat.le_trans hV.2.2.size (h4 x e).1, (h4 x e).2⟩⟩ ?_
  clear hK K hC hV h2 h3 h4 hst
  (try simp only [Act.put, List.getElem_toArray, List.getElem_cons_zero, List.getElem_cons_succ, List.setIfInBounds_toArray, List.set_cons_zero, List.set_cons_succ])
  refine wpDet_take ?vC12 (QSR.stays w1 g d m.keep p' c') (fun _ h => h.1) (i := 12) rfl (by kernel_rfl) (by kernel_rfl) (by kernel_rfl) (by kernel_rfl) (fun _ _ _ h => h) (Gives.value (by rfl) ?yC12) ?rC12
  case yC12 => (intro w' hSw; (try dsimp only at hSw); go_simp; try with_reducible rfl)
  (try simp only [Act.put, List.getElem_toArray, List.getElem_cons_zero, List.getElem_cons_succ, List.setIfInBounds_toArray, List.set_cons_zero, List.set_cons_succ])
  refine wpDet_ready (rs := [13]) (by kernel_rfl) (by simp) (AllDet.cons rfl (fun V hV K hK => ?_) AllDet.nil)
  rw [if_pos (by rfl)]
  refine wp_runs (v := .pointer (some ⟨V.heap.size, 0, none⟩)) (w' := V.alloc (.cells #[.int .i64 d.room, .bool d.down, .slice none 0 0, .slice none 0 0, .bool false, .slice none 0 0, .slice none 0 0, .bool false, .slice none 0 0, .slice none 0 0, .bool false, .slice none 0 0, .slice none 0 0, .bool false, .slice none 0 0, .slice none 0 0, .bool false, .slice none 0 0, .slice none 0 0, .bool false, .slice none 0 0, .slice none 0 0, .bool false, .slice none 0 0, .slice none 0 0, .bool false, .int .i64 d.left, .slice p' d.kn c'] 85)) (by first | (go_simp; done) | (go_simp; rfl)) ?_
  refine hK.out (fun U => QS w1 g d m.keep U ∧ Below (V.alloc (.cells #[.int .i64 d.room, .bool d.down, .slice none 0 0, .slice none 0 0, .bool false, .slice none 0 0, .slice none 0 0, .bool false, .slice none 0 0, .slice none 0 0, .bool false, .slice none 0 0, .slice none 0 0, .bool false, .slice none 0 0, .slice none 0 0, .bool false, .slice none 0 0, .slice none 0 0, .bool false, .slice none 0 0, .slice none 0 0, .bool false, .slice none 0 0, .slice none 0 0, .bool false, .int .i64 d.left, .slice p' d.kn c'] 85)).heap.size (V.alloc (.cells #[.int .i64 d.room, .bool d.down, .slice none 0 0, .slice none 0 0, .bool false, .slice none 0 0, .slice none 0 0, .bool false, .slice none 0 0, .slice none 0 0, .bool false, .slice none 0 0, .slice none 0 0, .bool false, .slice none 0 0, .slice none 0 0, .bool false, .slice none 0 0, .slice none 0 0, .bool false, .slice none 0 0, .slice none 0 0, .bool false, .slice none 0 0, .slice none 0 0, .bool false, .int .i64 d.left, .slice p' d.kn c'] 85)) U) _ _ (fun U U' h hb => ⟨QS.stays w1 g d m.keep U U' h.1 hb, h.2.trans (hb.mono h.2.size)⟩) (fun _ _ h => h.1) ⟨QS.stays w1 g d m.keep V _ hV.1 ((Below.refl _ _).alloc (Nat.le_refl _) _), Below.refl _ _⟩ ?_
  clear hK K
  (try simp only [Act.put, List.getElem_toArray, List.getElem_cons_zero, List.getElem_cons_succ, List.setIfInBounds_toArray, List.set_cons_zero, List.set_cons_succ])
  refine wpDet_ready (rs := [14]) (by kernel_rfl) (by simp) (AllDet.cons rfl (fun U hU K hK => ?_) AllDet.nil)
  rw [if_pos (by rfl)]
  refine wp_runs (v := .pointer (some ⟨V.heap.size, 0, none⟩)) (w' := U) (by first | (go_simp; done) | (go_simp; rfl)) ?_
  refine hK.out (fun U => QS w1 g d m.keep U ∧ Below (V.alloc (.cells #[.int .i64 d.room, .bool d.down, .slice none 0 0, .slice none 0 0, .bool false, .slice none 0 0, .slice none 0 0, .bool false, .slice none 0 0, .slice none 0 0, .bool false, .slice none 0 0, .slice none 0 0, .bool false, .slice none 0 0, .slice none 0 0, .bool false, .slice none 0 0, .slice none 0 0, .bool false, .slice none 0 0, .slice none 0 0, .bool false, .slice none 0 0, .slice none 0 0, .bool false, .int .i64 d.left, .slice p' d.kn c'] 85)).heap.size (V.alloc (.cells #[.int .i64 d.room, .bool d.down, .slice none 0 0, .slice none 0 0, .bool false, .slice none 0 0, .slice none 0 0, .bool false, .slice none 0 0, .slice none 0 0, .bool false, .slice none 0 0, .slice none 0 0, .bool false, .slice none 0 0, .slice none 0 0, .bool false, .slice none 0 0, .slice none 0 0, .bool false, .slice none 0 0, .slice none 0 0, .bool false, .slice none 0 0, .slice none 0 0, .bool false, .int .i64 d.left, .slice p' d.kn c'] 85)) U) _ _ (fun U U' h hb => ⟨QS.stays w1 g d m.keep U U' h.1 hb, h.2.trans (hb.mono h.2.size)⟩) (fun _ _ h => h.1) hU ?_
  clear hK K hU U
  (try simp only [Act.put, List.getElem_toArray, List.getElem_cons_zero, List.getElem_cons_succ, List.setIfInBounds_toArray, List.set_cons_zero, List.set_cons_succ])
  refine wpDet_done (by kernel_rfl) (fun w8 hw88 => ?_) _
  have hw8 := hw88.2
  clear hw88
  have hbV := hV.1.2.2
  have hV0 := (Below.refl V.heap.size V).alloc (Nat.le_refl _) (.cells #[.int .i64 d.room, .bool d.down, .slice none 0 0, .slice none 0 0, .bool false, .slice none 0 0, .slice none 0 0, .bool false, .slice none 0 0, .slice none 0 0, .bool false, .slice none 0 0, .slice none 0 0, .bool false, .slice none 0 0, .slice none 0 0, .bool false, .slice none 0 0, .slice none 0 0, .bool false, .slice none 0 0, .slice none 0 0, .bool false, .slice none 0 0, .slice none 0 0, .bool false, .int .i64 d.left, .slice p' d.kn c'] 85)
  have hV1 := hbV.trans (hV0.mono hbV.size)
  have hbW := hV1.trans (hw8.mono hV1.size)
  have hdc := (dkN_dc V d p' c').below hw8 (dkN_dc V d p' c').lt
  have hgc := hdc.lt
  have hrk := (hV.2.1.below' hV0).below' hw8
  have hpk := hV.2.2
  have hg1 : w1.heap.size ≤ V.heap.size := hbV.size
  have hN : DA w8 w1.heap.size (fun _ => 0) b V.heap.size (dkN d p' c') { m with f := cutF m.f 0 } :=
    ⟨hdc, h.room, h.down, h.left, fun _ _ => rfl, fun i _ => ⟨OwS.nil _ _ _ _, OwS.nil _ _ _ _, (fun _ e => by cases e), (fun _ e => by cases e), (fun _ => List.prefix_refl _), (fun e => by cases e)⟩, hrk, rfl, fun x e => ⟨rfl, Nat.ne_of_lt (hpk x e).2, Nat.lt_trans (hpk x e).2 hgc⟩, hg1, fun _ _ => rfl⟩
  have hO := h.below hbW
  have hkp : ∀ x, (dkN d p' c').kp = some x → w1.heap.size ≤ x.block := fun x e => (hpk x e).1
  clear hS0 hw8 hV hrk hpk hdc hV0 hV1 hbV hM
  generalize V.heap.size = gc at *
  clear V
  go_wp2_with fail
  go_loopw [22] (fun ix wr => ∃ (k : Nat) (own2 : Nat → Nat) (d2 : Dk), k ≤ 8 ∧ ix = .int .i64 k ∧ DA wr w1.heap.size own2 b gc d2 { m with f := cutF m.f k } ∧ DA wr B own a g d m ∧ (∀ j, j < w1.heap.size → own2 j = 0) ∧ (∀ x, d2.kp = some x → w1.heap.size ≤ x.block) ∧ Below w1.heap.size w1 wr) (fun ix _ => 8 - (intOf ix).toNat)
  case atStart => exact ⟨0, fun _ => 0, _, Nat.zero_le _, rfl, hN, hO, fun _ _ => rfl, hkp, hbW⟩
  case round =>
    clear hN hO hbW hgc hkp
    obtain ⟨k, own2, d2, hk, rfl, hN, hO, ho, hkp, hb⟩ := hrel
    by_cases h8 : k < 8
    · have hki : (k : Int) < 8 := by omega
      have hfm := hO.fm k h8
      have hl1 : (d.fl k).tn ≤ 1099511627776 := by rw [fl_tn hO h8]; have := hm.told k h8; omega
      have hl2 : (d.fl k).ln ≤ 1099511627776 := by rw [← hfm.lasts.len]; have := hm.lasts k h8; omega
      have hTh : wr.there gc (2 + k * 3) 3 := fun j hj => by
        rw [hN.dc.cells (2 + k * 3 + j) (by omega)]
        exact ⟨rfl, hN.dc.free _⟩
      have hS0 : KS wr g gc k (d.fl k) (m.f k).told (m.f k).lasts wr.drew := KS.stays wr g gc k (d.fl k) (m.f k).told (m.f k).lasts _ _ ⟨hO.dc.told h8, hO.dc.lasts h8, hO.dc.cl h8, hfm.told.rd, hfm.lasts.rd, hTh, Below.refl _ _⟩ (Below.refl _ _).drew
      have hcl := hO.cl k h8
      have hbeg := hfm.begins
      have hgN := hN.dc.lt
      have hgO := hO.dc.lt
      have hne : g ≠ gc := fun e => by
        have := h.dc.lt
        omega
      have HW : Hid (w1.heap.size ≤ gc) := hg1
      clear hTh hfm
      generalize d.fl k = f at *
      generalize hxs : (m.f k).told = xs at *
      generalize hys : (m.f k).lasts = ys at *
      go_wp2_with fail
      refine wp_region_det [0, 1, 2, 3, 4, 5, 6, 8, 9, 10] (fun _ => True) (KS wr g gc k f xs ys) (by kernel_rfl) hS0 ?_
      refine wpDet_take ?vG0 (KS.stays wr g gc k f xs ys) (fun _ _ => trivial) (i := 0) rfl (by kernel_rfl) (by kernel_rfl) (by kernel_rfl) (by kernel_rfl) (fun _ _ _ h => h) (Gives.value (by rfl) ?yG0) ?rG0
      case yG0 => (intro w' hSw; (try dsimp only at hSw); go_simp; try with_reducible rfl)
      (try simp only [Act.put, List.getElem_toArray, List.getElem_cons_zero, List.getElem_cons_succ, List.setIfInBounds_toArray, List.set_cons_zero, List.set_cons_succ])
      refine wpDet_take ?vG1 (KS.stays wr g gc k f xs ys) (fun _ _ => trivial) (i := 1) rfl (by kernel_rfl) (by kernel_rfl) (by kernel_rfl) (by kernel_rfl) (fun _ _ _ h => h) (Gives.value (by rfl) ?yG1) ?rG1
      case yG1 => (intro w' hSw; (try dsimp only at hSw); go_simp; try with_reducible rfl)
      (try simp only [Act.put, List.getElem_toArray, List.getElem_cons_zero, List.getElem_cons_succ, List.setIfInBounds_toArray, List.set_cons_zero, List.set_cons_succ])
      refine wpDet_take ?vG2 (KS.stays wr g gc k f xs ys) (fun _ _ => trivial) (i := 2) rfl (by kernel_rfl) (by kernel_rfl) (by kernel_rfl) (by kernel_rfl) (fun _ _ _ h => h) (Gives.value (by rfl) ?yG2) ?rG2
      case yG2 => (intro w' hSw; (try dsimp only at hSw); go_simp; try with_reducible rfl)
      (try simp only [Act.put, List.getElem_toArray, List.getElem_cons_zero, List.getElem_cons_succ, List.setIfInBounds_toArray, List.set_cons_zero, List.set_cons_succ])
      refine wpDet_take ?vG3 (KS.stays wr g gc k f xs ys) (fun _ _ => trivial) (i := 3) rfl (by kernel_rfl) (by kernel_rfl) (by kernel_rfl) (by kernel_rfl) (fun _ _ _ h => h) (Gives.value (by rfl) ?yG3) ?rG3
      case yG3 => (intro w' hSw; (try dsimp only at hSw); go_simp; try with_reducible rfl)
      (try simp only [Act.put, List.getElem_toArray, List.getElem_cons_zero, List.getElem_cons_succ, List.setIfInBounds_toArray, List.set_cons_zero, List.set_cons_succ])
      refine wpDet_take ?vG4 (KS.stays wr g gc k f xs ys) (fun _ _ => trivial) (i := 4) rfl (by kernel_rfl) (by kernel_rfl) (by kernel_rfl) (by kernel_rfl) (fun _ _ _ h => h) (Gives.value (by rfl) ?yG4) ?rG4
      case yG4 => (intro w' hSw; (try dsimp only at hSw); go_simp; try with_reducible rfl)
      (try simp only [Act.put, List.getElem_toArray, List.getElem_cons_zero, List.getElem_cons_succ, List.setIfInBounds_toArray, List.set_cons_zero, List.set_cons_succ])
      refine wpDet_take ?vG5 (KS.stays wr g gc k f xs ys) (fun _ _ => trivial) (i := 5) rfl (by kernel_rfl) (by kernel_rfl) (by kernel_rfl) (by kernel_rfl) (fun _ _ _ h => h) (Gives.value (by rfl) ?yG5) ?rG5
      case yG5 => (intro w' hSw; (try dsimp only at hSw); go_simp; try with_reducible rfl)
      (try simp only [Act.put, List.getElem_toArray, List.getElem_cons_zero, List.getElem_cons_succ, List.setIfInBounds_toArray, List.set_cons_zero, List.set_cons_succ])
      refine wpDet_take ?vG6 (KS.stays wr g gc k f xs ys) (fun _ _ => trivial) (i := 6) rfl (by kernel_rfl) (by kernel_rfl) (by kernel_rfl) (by kernel_rfl) (fun _ _ _ h => h) (Gives.value (by rfl) ?yG6) ?rG6
      case yG6 => (intro w' hSw; (try dsimp only at hSw); go_simp; try with_reducible rfl)
      (try simp only [Act.put, List.getElem_toArray, List.getElem_cons_zero, List.getElem_cons_succ, List.setIfInBounds_toArray, List.set_cons_zero, List.set_cons_succ])
      refine wpDet_take ?vG8 (KS.stays wr g gc k f xs ys) (fun _ _ => trivial) (i := 8) rfl (by kernel_rfl) (by kernel_rfl) (by kernel_rfl) (by kernel_rfl) (fun _ _ _ h => h) (Gives.value (by rfl) ?yG8) ?rG8
      case yG8 => (intro w' hSw; (try dsimp only at hSw); go_simp; try with_reducible rfl)
      (try simp only [Act.put, List.getElem_toArray, List.getElem_cons_zero, List.getElem_cons_succ, List.setIfInBounds_toArray, List.set_cons_zero, List.set_cons_succ])
      refine wpDet_take ?vG9 (KS.stays wr g gc k f xs ys) (fun _ _ => trivial) (i := 9) rfl (by kernel_rfl) (by kernel_rfl) (by kernel_rfl) (by kernel_rfl) (fun _ _ _ h => h) (Gives.value (by rfl) ?yG9) ?rG9
      case yG9 => (intro w' hSw; (try dsimp only at hSw); go_simp; try with_reducible rfl)
      (try simp only [Act.put, List.getElem_toArray, List.getElem_cons_zero, List.getElem_cons_succ, List.setIfInBounds_toArray, List.set_cons_zero, List.set_cons_succ])
      refine wpDet_ready (rs := [7]) (by kernel_rfl) (by simp) (AllDet.cons rfl (fun V hV K hK => ?_) AllDet.nil)
      rw [if_pos (by rfl)]
      have hC := flclone_any V g (2 + k * 3) f xs ys hV.1 hV.2.1 hV.2.2.1 hV.2.2.2.1 hV.2.2.2.2.1 hl1 hl2
      refine wp_enterX 64 #[.pointer (some ⟨g, 2 + k * 3, none⟩)] (by first | (go_simp; done) | (go_simp; rfl)) (fun v V' => ∃ p1 c1 p2 c2, v = .agg #[.slice p1 f.tn c1, .slice p2 f.ln c2, .bool f.cl] ∧ OwS .u8 5 V' V.heap.size p1 f.tn c1 xs ∧ OwS .u8 5 V' V.heap.size p2 f.ln c2 ys ∧ Below V.heap.size V V' ∧ (∀ x, p2 = some x → ∀ y, p1 = some y → y.block ≠ x.block)) (hC.mono fun e V' ⟨p1, c1, p2, c2, h1, h2⟩ => ⟨_, h1, p1, c1, p2, c2, rfl, h2⟩) ?_
      rintro v V' ⟨p1, c1, p2, c2, rfl, o1, o2, h3, h4⟩
      have hst := KS.stays wr g gc k f xs ys V V' hV h3
      refine hK.out (fun U => KS wr g gc k f xs ys U ∧ OwS .u8 5 U wr.heap.size p1 f.tn c1 xs ∧ OwS .u8 5 U wr.heap.size p2 f.ln c2 ys) _ _ (KSR.stays wr g gc k f xs ys p1 c1 p2 c2) (fun _ _ _ => trivial) ⟨hst, o1.lower hV.2.2.2.2.2.2.size, o2.lower hV.2.2.2.2.2.2.size⟩ ?_
      clear hK K hC hV o1 o2 h3 hst
      (try simp only [Act.put, List.getElem_toArray, List.getElem_cons_zero, List.getElem_cons_succ, List.setIfInBounds_toArray, List.set_cons_zero, List.set_cons_succ])
      refine wpDet_take ?vG10 (KSR.stays wr g gc k f xs ys p1 c1 p2 c2) (fun _ _ => trivial) (i := 10) rfl (by kernel_rfl) (by kernel_rfl) (by kernel_rfl) (by kernel_rfl) (fun _ _ _ h => h) (Gives.value (by rfl) ?yG10) ?rG10
      case yG10 => (intro w' hSw; (try dsimp only at hSw); go_simp; try with_reducible rfl)
      (try simp only [Act.put, List.getElem_toArray, List.getElem_cons_zero, List.getElem_cons_succ, List.setIfInBounds_toArray, List.set_cons_zero, List.set_cons_succ])
      refine wpDet_ready (rs := [11]) (by kernel_rfl) (by simp) (AllDet.cons rfl (fun V hV K hK => ?_) AllDet.nil)
      rw [if_pos (by rfl)]
      refine wp_store_mid 80 _ _ rfl gc (2 + k * 3) #[.slice p1 f.tn c1, .slice p2 f.ln c2, .bool f.cl] rfl rfl hV.1.2.2.2.2.2.1 sizeFi (oneFi _ _ _ _ _ _ _) ?_
      generalize hU0 : V.setCells gc (2 + k * 3) #[.slice p1 f.tn c1, .slice p2 f.ln c2, .bool f.cl].toList = U0
      refine hK.out (fun U => Below U0.heap.size U0 U) _ U0 (fun U U' h hb => h.trans (hb.mono h.size)) (fun _ _ _ => trivial) (Below.refl _ _) ?_
      clear hK K
      (try simp only [Act.put, List.getElem_toArray, List.getElem_cons_zero, List.getElem_cons_succ, List.setIfInBounds_toArray, List.set_cons_zero, List.set_cons_succ])
      refine wpDet_done (by kernel_rfl) (fun w8 hw8 => ?_) _
      have hbV := hV.1.2.2.2.2.2.2
      change V.setCells gc (2 + k * 3) [.slice p1 f.tn c1, .slice p2 f.ln c2, .bool f.cl] = U0 at hU0
      obtain ⟨hD3, ho3, hn3⟩ := hN.cloned hbV h8 hV.2.1 hV.2.2 h4 hbeg hb.size
      have hc3 := Ch.setCells gc [.slice p1 f.tn c1, .slice p2 f.ln c2, .bool f.cl] (2 + k * 3) V
      have hcW := (Ch.of_below hbV (fun k => k = gc)).trans hc3
      have hO3 : DA _ B own a g d m := hO.ch hcW hne (fun i j _ hj e => by
        subst e
        rw [h.fr j hg1] at hj
        exact mark_pos a i hj.symm) (fun x e e2 => by
        have h1 := (h.ok x e).2.2
        omega) (fun _ _ => rfl) (fun j hj => hO.fr j (Nat.le_trans hcW.size hj))
      have hB3 := hb.trans (hcW.below hb.size (fun j e => by rw [e]; exact hg1))
      rw [hU0] at hD3 hO3 hB3
      have hD4 := hD3.below hw8
      have hO4 := hO3.below hw8
      have hB4 := hB3.trans (hw8.mono hB3.size)
      dsimp only at hD4
      have ef : (⟨xs, ys, f.cl⟩ : PF) = m.f k := by rw [hcl, ← hxs, ← hys]
      rw [ef, cutF_step] at hD4
      clear hD3 hO3 hB3 hc3 hcW hV hbV hw8
      go_wp2_with fail
      go_roundw
      case rel => exact ⟨k + 1, _, _, by omega, by go_num, hD4, hO4, fun j hj => (ho3 j (Nat.lt_of_lt_of_le hj hb.size)).trans (ho j hj), hkp, hB4⟩
      case measure => simp [intOf]; omega
    · obtain rfl : k = 8 := by omega
      have hgN := hN.dc.lt
      have hF := hN.cut (m' := m) rfl rfl rfl rfl (fun i hi => by show m.f i = cutF m.f 8 i; unfold cutF; rw [if_pos hi])
      clear hN hO
      go_wp2_with fail
      go_ret
      exact ⟨gc, own2, d2, rfl, hg1, hgN, hF, ho, hkp, hb⟩

end Go.Proofs.Ytpjhadaiodnnaaa.M
