/-
  Own text: the contracts of a tape's Sync where it is done, of Len, of Kept and of Base.
-/
import Derived.Test.YtpjhadaiodnnaaaTSave2
namespace Go.Proofs.Ytpjhadaiodnnaaa.M
open Go.ChangeShapes Go.WideShapes Go.ChangeAt Go.RowKit
set_option linter.unusedSimpArgs false

set_option maxRecDepth 20000 in
theorem TLen_ok (w : World) (gt g : Nat) (p : Option Addr) (n c : Nat) (h0 : w.cell? ⟨gt, 0, none⟩ = some (.pointer (some ⟨g, 0, none⟩))) (h5 : w.cell? ⟨gt, 5, none⟩ = some (.slice p n c)) : Calls Try.prog 34 #[.pointer (some ⟨gt, 0, none⟩)] w fun e w' => e = .returned (.int .i64 n) ∧ Below w.heap.size w w' := by
  have hM := tmade_yes w gt g h0
  go_enter Try.func34, Try.ntmps34
  go_wp2_with fail
  refine hM.mono ?_
  rintro e w0 ⟨rfl, hw0⟩
  subst hw0
  clear hM
  go_wp2_with fail
  go_ret
  exact ⟨rfl, Below.refl _ _⟩

set_option maxRecDepth 20000 in
theorem TKept_ok (w : World) (gt g : Nat) (n : Nat) (h0 : w.cell? ⟨gt, 0, none⟩ = some (.pointer (some ⟨g, 0, none⟩))) (h2 : w.cell? ⟨gt, 2, none⟩ = some (.int .i64 n)) : Calls Try.prog 35 #[.pointer (some ⟨gt, 0, none⟩)] w fun e w' => e = .returned (.int .i64 n) ∧ Below w.heap.size w w' := by
  have hM := tmade_yes w gt g h0
  go_enter Try.func35, Try.ntmps35
  go_wp2_with fail
  refine hM.mono ?_
  rintro e w0 ⟨rfl, hw0⟩
  subst hw0
  clear hM
  go_wp2_with fail
  go_ret
  exact ⟨rfl, Below.refl _ _⟩

set_option maxRecDepth 20000 in
theorem TBase_ok (w : World) (gt g : Nat) (p : Option Addr) (n c : Nat) (xs : List Int) (h0 : w.cell? ⟨gt, 0, none⟩ = some (.pointer (some ⟨g, 0, none⟩))) (h4 : w.cell? ⟨gt, 4, none⟩ = some (.slice p n c)) (hr : Rd .u8 w p n c xs) (hn : n ≤ 1099511627776) : Calls Try.prog 30 #[.pointer (some ⟨gt, 0, none⟩)] w fun e w' => (∃ p' c', e = .returned (.slice p' n c') ∧ Ow .u8 5 w' w.heap.size p' n c' xs) ∧ Below w.heap.size w w' := by
  have hM := tmade_yes w gt g h0
  have hC := bcloneO p n c xs w hr hn
  go_enter Try.func30, Try.ntmps30
  go_wp2_with fail
  refine hM.mono ?_
  rintro e w0 ⟨rfl, hw0⟩
  subst hw0
  clear hM
  go_wp2_with fail
  refine hC.mono ?_
  rintro e w1 ⟨p', c', rfl, hO, hb⟩
  clear hC
  go_wp2_with fail
  go_ret
  exact ⟨⟨p', c', rfl, hO⟩, hb⟩

set_option maxRecDepth 20000 in
set_option maxHeartbeats 2000000 in
theorem TSync_ok (w : World) (B : Nat) (own : Nat → Nat) (a g : Nat) (d : Dk) (m : PD) (ha : a ≤ 100) (h : DA w B own a g d m) (hm : Good m) (gt : Nat) (t : TP) (pb : Option Addr) (nb cb : Nat) (pr : Option Addr) (cr : Nat) (vs : List Value) (hT : TB w own g gt t pb nb cb pr cr vs) (hfile : t.file ≤ 1) :
    Calls Try.prog 20 #[.pointer (some ⟨gt, 0, none⟩)] w fun e w' => e = .returned (.int .i64 0) ∧ ∃ own2 d2, DA w' B own2 a g d2 { m with f := upP m.f t.file ⟨(m.f t.file).told, (m.f t.file).told, false⟩ } ∧ TB w' own2 g gt { t with kept := t.r.recs.length } pb nb cb pr cr vs ∧ (∀ k, k < w.heap.size → own2 k = own k) ∧ Ch (fun k => k = g ∨ k = gt ∨ own k = mark a t.file) w w' := by
  have hi8 : t.file < 8 := by omega
  have hM := tmade_yes w gt g (hT.blk.cell 0)
  go_enter Try.func20, Try.ntmps20
  go_wp2_with fail
  refine hM.mono ?_
  rintro e w0 ⟨rfl, hw0⟩
  subst hw0
  clear hM
  have hS0w : ∀ W, Bl w0 W → (W.cell? ⟨gt, 0, none⟩ = some (.pointer (some ⟨g, 0, none⟩)) ∧ W.cell? ⟨gt, 1, none⟩ = some (.int .i64 t.file)) := fun W hW => ⟨cell_below (Bl.out' hW) (hT.blk.cell 0), cell_below (Bl.out' hW) (hT.blk.cell 1)⟩
  have hS0 : Bl w0 w0.drew := (Below.refl _ _).drew
  go_wp2_with fail
  refine wp_region_det [0, 1, 2, 3, 4, 5, 6, 7] (fun W => W.cell? ⟨gt, 0, none⟩ = some (.pointer (some ⟨g, 0, none⟩)) ∧ W.cell? ⟨gt, 1, none⟩ = some (.int .i64 t.file)) (Bl w0) (by kernel_rfl) hS0 ?_
  refine wpDet_take ?vA0 (Bl.stays w0) hS0w (i := 0) rfl (by kernel_rfl) (by kernel_rfl) (by kernel_rfl) (by kernel_rfl) (fun _ _ _ h => h) (Gives.value (by rfl) ?yA0) ?rA0
  case yA0 => (intro w' hSw; (try dsimp only at hSw); go_simp; try with_reducible rfl)
  (try simp only [Act.put, List.getElem_toArray, List.getElem_cons_zero, List.getElem_cons_succ, List.setIfInBounds_toArray, List.set_cons_zero, List.set_cons_succ])
  refine wpDet_take ?vA1 (Bl.stays w0) hS0w (i := 1) rfl (by kernel_rfl) (by kernel_rfl) (by kernel_rfl) (by kernel_rfl) (fun _ _ _ h => h) (Gives.value (by rfl) ?yA1) ?rA1
  case yA1 => (intro w' hSw; (try dsimp only at hSw); go_simp; try with_reducible rfl)
  (try simp only [Act.put, List.getElem_toArray, List.getElem_cons_zero, List.getElem_cons_succ, List.setIfInBounds_toArray, List.set_cons_zero, List.set_cons_succ])
  refine wpDet_take ?vA2 (Bl.stays w0) hS0w (i := 2) rfl (by kernel_rfl) (by kernel_rfl) (by kernel_rfl) (by kernel_rfl) (fun _ _ _ h => h) (Gives.value (by rfl) ?yA2) ?rA2
  case yA2 => (intro w' hSw; (try dsimp only at hSw); go_simp; try with_reducible rfl)
  (try simp only [Act.put, List.getElem_toArray, List.getElem_cons_zero, List.getElem_cons_succ, List.setIfInBounds_toArray, List.set_cons_zero, List.set_cons_succ])
  refine wpDet_take ?vA3 (Bl.stays w0) hS0w (i := 3) rfl (by kernel_rfl) (by kernel_rfl) (by kernel_rfl) (by kernel_rfl) (fun _ _ _ h => h) (Gives.value (by rfl) ?yA3) ?rA3
  case yA3 => (intro w' hSw; have hz0 := hSw.1; (try dsimp only at hSw); go_simp; try with_reducible rfl)
  (try simp only [Act.put, List.getElem_toArray, List.getElem_cons_zero, List.getElem_cons_succ, List.setIfInBounds_toArray, List.set_cons_zero, List.set_cons_succ])
  refine wpDet_take ?vA4 (Bl.stays w0) hS0w (i := 4) rfl (by kernel_rfl) (by kernel_rfl) (by kernel_rfl) (by kernel_rfl) (fun _ _ _ h => h) (Gives.value (by rfl) ?yA4) ?rA4
  case yA4 => (intro w' hSw; (try dsimp only at hSw); go_simp; try with_reducible rfl)
  (try simp only [Act.put, List.getElem_toArray, List.getElem_cons_zero, List.getElem_cons_succ, List.setIfInBounds_toArray, List.set_cons_zero, List.set_cons_succ])
  refine wpDet_take ?vA5 (Bl.stays w0) hS0w (i := 5) rfl (by kernel_rfl) (by kernel_rfl) (by kernel_rfl) (by kernel_rfl) (fun _ _ _ h => h) (Gives.value (by rfl) ?yA5) ?rA5
  case yA5 => (intro w' hSw; (try dsimp only at hSw); go_simp; try with_reducible rfl)
  (try simp only [Act.put, List.getElem_toArray, List.getElem_cons_zero, List.getElem_cons_succ, List.setIfInBounds_toArray, List.set_cons_zero, List.set_cons_succ])
  refine wpDet_take ?vA6 (Bl.stays w0) hS0w (i := 6) rfl (by kernel_rfl) (by kernel_rfl) (by kernel_rfl) (by kernel_rfl) (fun _ _ _ h => h) (Gives.value (by rfl) ?yA6) ?rA6
  case yA6 => (intro w' hSw; (try dsimp only at hSw); go_simp; try with_reducible rfl)
  (try simp only [Act.put, List.getElem_toArray, List.getElem_cons_zero, List.getElem_cons_succ, List.setIfInBounds_toArray, List.set_cons_zero, List.set_cons_succ])
  refine wpDet_take ?vA7 (Bl.stays w0) hS0w (i := 7) rfl (by kernel_rfl) (by kernel_rfl) (by kernel_rfl) (by kernel_rfl) (fun _ _ _ h => h) (Gives.value (by rfl) ?yA7) ?rA7
  case yA7 => (intro w' hSw; have hz0 := hSw.2; (try dsimp only at hSw); go_simp; try with_reducible rfl)
  (try simp only [Act.put, List.getElem_toArray, List.getElem_cons_zero, List.getElem_cons_succ, List.setIfInBounds_toArray, List.set_cons_zero, List.set_cons_succ])
  refine wpDet_ready (rs := [8]) (by kernel_rfl) (by simp) (AllDet.cons rfl (fun V hV K hK => ?_) AllDet.nil)
  rw [if_pos (by rfl)]
  have hbV := Bl.out' hV
  have hS := Sync_ok V B own a g d m (h.below hbV) hm.r0 hm.up hm.few t.file hi8
  rw [act0 hm.left, gone0 hm.left] at hS
  refine wp_enterX 54 #[.pointer (some ⟨g, 0, none⟩), .int .i64 t.file] (by first | (go_simp; done) | (go_simp; rfl)) (fun v V' => v = .int .i64 0 ∧ ∃ own1 d1, DA V' B own1 a g d1 { m with f := upP m.f t.file ⟨(m.f t.file).told, (m.f t.file).told, false⟩ } ∧ (∀ k, k < V.heap.size → own1 k = own k) ∧ Ch (fun k => k = g ∨ own k = mark a t.file) V V') (hS.mono fun e V' ⟨h1, h2⟩ => ⟨_, h1, rfl, h2⟩) ?_
  rintro v V1 ⟨rfl, own1, d1, h1, ho1, hc1⟩
  have hT1 := TB.ch ha hi8 (hT.below hbV) hc1 ho1
  have hcc := (Ch.of_below hbV (fun k => k = g ∨ own k = mark a t.file)).trans hc1
  have hoo : ∀ k, k < w0.heap.size → own1 k = own k := fun k hk => ho1 k (Nat.lt_of_lt_of_le hk hbV.size)
  have c01 := hT1.blk.cell 0
  have c11 := hT1.blk.cell 1
  have hS1w : ∀ W, Bl V1 W → (W.cell? ⟨gt, 0, none⟩ = some (.pointer (some ⟨g, 0, none⟩)) ∧ W.cell? ⟨gt, 1, none⟩ = some (.int .i64 t.file)) := fun W hW => ⟨cell_below (Bl.out' hW) c01, cell_below (Bl.out' hW) c11⟩
  refine hK.out (Bl V1) _ _ (Bl.stays V1) (fun _ W h => hS1w W h) (Below.refl _ _) ?_
  clear hK K hV hS ho1 hc1 hbV c01 c11
  (try simp only [Act.put, List.getElem_toArray, List.getElem_cons_zero, List.getElem_cons_succ, List.setIfInBounds_toArray, List.set_cons_zero, List.set_cons_succ])
  refine wpDet_ready (rs := [9]) (by kernel_rfl) (by simp) (AllDet.cons rfl (fun V hV K hK => ?_) AllDet.nil)
  rw [if_pos (by rfl)]
  refine wp_value (.int .i64 0) V (by first | (go_simp; done) | (go_simp; rfl)) ?_
  refine hK.out (Bl V1) _ _ (Bl.stays V1) (fun _ W h => hS1w W h) hV ?_
  clear hK K hV
  (try simp only [Act.put, List.getElem_toArray, List.getElem_cons_zero, List.getElem_cons_succ, List.setIfInBounds_toArray, List.set_cons_zero, List.set_cons_succ])
  refine wpDet_done (by kernel_rfl) (fun W2 hW2 => ?_) _
  have hbW := Bl.out' hW2
  have hT2 := hT1.below hbW
  have h2 := h1.below hbW
  have hc2 := hcc.trans (Ch.of_below hbW _)
  have c5 := hT2.blk.cell 5
  have c2 := hT2.blk.cell 2
  have f2 := hT2.blk.free 2
  have hot : own1 gt = farM := hT2.fg.1
  clear hS1w hW2 hbW h1 hT1 hcc hS0w hS0
  go_wp2_with fail
  go_ret
  have hEx : Ex gt W2 (W2.setCell ⟨gt, 2, none⟩ (.int .i64 t.r.recs.length)) := (Ex.refl gt W2).setCell 2 _
  have hCx := Ch.of_ex hEx
  refine ⟨rfl, own1, d1, h2.exF ha hEx hot hT.fg.2, ?_, hoo, ?_⟩
  · exact TB.put hT2 hEx t.file t.r.recs.length (heap_setCell_same W2 gt 2 _ _ _ hT2.blk)
  · exact (hc2.mono (T := fun k => k = g ∨ k = gt ∨ own k = mark a t.file) (fun k _ e => e.elim Or.inl fun e => Or.inr (Or.inr e))).then hCx (fun k _ e => Or.inr (Or.inl e))

end Go.Proofs.Ytpjhadaiodnnaaa.M
