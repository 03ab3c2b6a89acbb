/-
  Own text: Open of a tape, whatever lies in its files.
-/
import Derived.Test.YtpjhadaiodnnaaaTOpen0
import Derived.Test.YtpjhadaiodnnaaaDet4
namespace Go.Proofs.Ytpjhadaiodnnaaa.M
open Go.ChangeShapes Go.WideShapes Go.ChangeAt Go.RowKit
set_option linter.unusedSimpArgs false

/-- What Open hands back: the tape, or none. -/
def opT (c : Int) (gt : Nat) : Value := if c = 0 then .pointer (some ⟨gt, 0, none⟩) else .pointer none

set_option maxRecDepth 20000 in
set_option maxHeartbeats 4000000 in
theorem TOpen_gen (w : World) (g : Nat) (tl : Nat → List Int) (hRd : ∀ wr, Below w.heap.size w wr → ∀ i : Nat, i < 2 → Calls Try.prog 46 #[.pointer (some ⟨g, 0, none⟩), .int .i64 i] wr fun e w' => ∃ p' c', e = .returned (.tuple #[.slice p' (tl i).length c', .int .i64 0]) ∧ Ow .u8 5 w' wr.heap.size p' (tl i).length c' (tl i) ∧ Below wr.heap.size wr w') (hBy : ∀ i, i < 2 → By (tl i)) (hLt : ∀ i, i < 2 → (tl i).length ≤ 1099511627776) (PS : Int → Nat → World → Prop) (hPS : ∀ c gt W W', PS c gt W → Below W.heap.size W W' → PS c gt W')
    (hSv : (scT tl 2).2.2 = false → ∀ w1 gt pb nb cb pr cr vs, OI w w1 g gt (scT tl 2).1 (scT tl 2).2.1.recs.length (scT tl 2).2.1 pb nb cb pr cr vs → Calls Try.prog 21 #[.pointer (some ⟨gt, 0, none⟩), .slice pb nb cb, .slice pr (scT tl 2).2.1.recs.length cr] w1 fun e w' => ∃ c, e = .returned (.int .i64 c) ∧ PS c gt w') :
    Calls Try.prog 13 #[.pointer (some ⟨g, 0, none⟩)] w fun e w' => ((scT tl 2).2.2 = true ∧ ∃ gt pb nb cb pr cr vs, e = .returned (.tuple #[.pointer (some ⟨gt, 0, none⟩), .int .i64 0]) ∧ OI w w' g gt (scT tl 2).1 (scT tl 2).2.1.recs.length (scT tl 2).2.1 pb nb cb pr cr vs) ∨ ((scT tl 2).2.2 = false ∧ ∃ c gt, e = .returned (.tuple #[opT c gt, .int .i64 c]) ∧ PS c gt w') := by
  have hba := below_alloc w (.cells #[.pointer (some ⟨g, 0, none⟩), .int .i64 1, .int .i64 0, .int .i64 0, .slice none 0 0, .slice none 0 0] 74)
  have hA0 := At.new 74 w #[.pointer (some ⟨g, 0, none⟩), .int .i64 1, .int .i64 0, .int .i64 0, .slice none 0 0, .slice none 0 0]
  have HRd : Hid (∀ wr, Below w.heap.size w wr → ∀ i : Nat, i < 2 → Calls Try.prog 46 #[.pointer (some ⟨g, 0, none⟩), .int .i64 i] wr fun e w' => ∃ p' c', e = .returned (.tuple #[.slice p' (tl i).length c', .int .i64 0]) ∧ Ow .u8 5 w' wr.heap.size p' (tl i).length c' (tl i) ∧ Below wr.heap.size wr w') := hRd
  have HBy : Hid (∀ i, i < 2 → By (tl i)) := hBy
  have HLt : Hid (∀ i, i < 2 → (tl i).length ≤ 1099511627776) := hLt
  have HSv : Hid ((scT tl 2).2.2 = false → ∀ w1 gt pb nb cb pr cr vs, OI w w1 g gt (scT tl 2).1 (scT tl 2).2.1.recs.length (scT tl 2).2.1 pb nb cb pr cr vs → Calls Try.prog 21 #[.pointer (some ⟨gt, 0, none⟩), .slice pb nb cb, .slice pr (scT tl 2).2.1.recs.length cr] w1 fun e w' => ∃ c, e = .returned (.int .i64 c) ∧ PS c gt w') := hSv
  have HPS : Hid (∀ c gt W W', PS c gt W → Below W.heap.size W W' → PS c gt W') := hPS
  clear hRd hBy hLt hSv hPS
  have HA0 : Hid (At 74 (w.alloc (.cells #[.pointer (some ⟨g, 0, none⟩), .int .i64 1, .int .i64 0, .int .i64 0, .slice none 0 0, .slice none 0 0] 74)) w.heap.size #[.pointer (some ⟨g, 0, none⟩), .int .i64 1, .int .i64 0, .int .i64 0, .slice none 0 0, .slice none 0 0]) := hA0
  have HBA : Hid (Below w.heap.size w (w.alloc (.cells #[.pointer (some ⟨g, 0, none⟩), .int .i64 1, .int .i64 0, .int .i64 0, .slice none 0 0, .slice none 0 0] 74))) := hba
  clear hA0 hba
  go_enter Try.func13, Try.ntmps13
  go_wp2_with fail
  obtain ⟨gt, HG⟩ : ∃ z, z = w.heap.size := ⟨_, rfl⟩
  have HGT : Hid (gt = w.heap.size) := HG
  have hA0 := HA0.out
  have hba := HBA.out
  rw [← HG] at hA0 ⊢
  clear HG
  go_loopw [15, 5] (fun ix b wr => ∃ (k : Nat) (pb : Option Addr) (nb cb : Nat) (pr : Option Addr) (cr : Nat) (vs : List Value), k ≤ 2 ∧ ix = .int .i64 k ∧ b = .bool (scT tl k).2.2 ∧ OI w wr g gt (scT tl k).1 0 (scT tl k).2.1 pb nb cb pr cr vs) (fun ix _ _ => 2 - (intOf ix).toNat)
  case atStart => exact ⟨0, none, 0, 0, none, 0, [], by omega, rfl, rfl, ⟨hba, hA0, Ow.empty _ _ _ _ _, OwG.empty _ _ _, Slo.nil _ _ _, HGT.out⟩⟩
  case round =>
    obtain ⟨k, pb, nb, cb, pr, cr, vs, hk, rfl, rfl, hI⟩ := hrel
    by_cases hk2 : k < 2
    · have hki : (k : Int) < 2 := by omega
      have hR := HRd.out wr hI.hb k hk2
      go_wp2_with fail
      refine hR.mono ?_
      rintro e w1 ⟨p1, c1, rfl, hO1, hb1⟩
      clear hR
      have hL := load_any _ p1 _ c1 _ w1 hO1 (HBy.out k hk2) (HLt.out k hk2)
      go_wp2_with fail
      refine hL.mono ?_
      rintro e w2 ⟨⟨v, rfl, pb2, nb2, cb2, pr2, cr2, vs2, rfl, hO2, hV2, hS2⟩, hb2⟩
      clear hL
      obtain ⟨r2, Hr2⟩ : ∃ z, z = (ldR (tl k)).1 := ⟨_, rfl⟩
      obtain ⟨b2, Hb2⟩ : ∃ z, z = (ldR (tl k)).2 := ⟨_, rfl⟩
      obtain ⟨gen2, Hg2⟩ : ∃ z, z = r2.gen := ⟨_, rfl⟩
      obtain ⟨n2, Hn2⟩ : ∃ z, z = r2.recs.length := ⟨_, rfl⟩
      rw [← Hr2] at hO2 hS2 hV2 ⊢
      rw [← Hb2]
      rw [← Hn2] at hV2 ⊢
      rw [← Hg2]
      have HR2 : Hid (r2 = (ldR (tl k)).1) := Hr2
      have HB2 : Hid (b2 = (ldR (tl k)).2) := Hb2
      have HG2 : Hid (gen2 = r2.gen) := Hg2
      have HN2 : Hid (n2 = r2.recs.length) := Hn2
      clear Hr2 Hb2 Hg2 Hn2
      have hI2 := hI.below (hb1.trans (hb2.mono hb1.size))
      have hba3 := below_alloc w2 (.cells #[.int .i64 gen2, .slice pb2 nb2 cb2, .slice pr2 n2 cr2] 72)
      have hG3 := At.new 72 w2 #[.int .i64 gen2, .slice pb2 nb2 cb2, .slice pr2 n2 cr2]
      have hI3 := hI2.below hba3
      have HI3 : Hid (OI w (w2.alloc (.cells #[.int .i64 gen2, .slice pb2 nb2 cb2, .slice pr2 n2 cr2] 72)) g gt (scT tl k).1 0 (scT tl k).2.1 pb nb cb pr cr vs) := hI3
      have HG3 : Hid (At 72 (w2.alloc (.cells #[.int .i64 gen2, .slice pb2 nb2 cb2, .slice pr2 n2 cr2] 72)) w2.heap.size #[.int .i64 gen2, .slice pb2 nb2 cb2, .slice pr2 n2 cr2]) := hG3
      have HI0 : Hid (w.heap.size < wr.heap.size) := by show _ < _; have h1 := hI.blk.lt; rw [HGT.out] at h1; exact h1
      clear hI hI2 hI3 hba3 hG3 hA0 hba
      go_wp2_with fail
      have hI3 := HI3.out
      have hG3 := HG3.out
      generalize hw3 : w2.alloc (.cells #[.int .i64 gen2, .slice pb2 nb2 cb2, .slice pr2 n2 cr2] 72) = w3 at *
      generalize hgb : w2.heap.size = gb at *
      have hS3w : ∀ W, Bl w3 W → (W.cell? ⟨gb, 0, none⟩ = some (.int .i64 gen2) ∧ W.cell? ⟨gt, 3, none⟩ = some (.int .i64 (scT tl k).2.1.gen)) := fun W hW => ⟨cell_below (Bl.out' hW) (hG3.cell 0), cell_below (Bl.out' hW) (hI3.blk.cell 3)⟩
      have hS3 : Bl w3 w3.drew := (Below.refl _ _).drew
      refine wp_region_det [0, 1, 2, 3, 4, 5, 6, 7] (fun W => W.cell? ⟨gb, 0, none⟩ = some (.int .i64 gen2) ∧ W.cell? ⟨gt, 3, none⟩ = some (.int .i64 (scT tl k).2.1.gen)) (Bl w3) (by kernel_rfl) hS3 ?_
      refine wpDet_take ?vA0 (Bl.stays w3) hS3w (i := 0) rfl (by kernel_rfl) (by kernel_rfl) (by kernel_rfl) (by kernel_rfl) (fun _ _ _ h => h) (Gives.value (by rfl) ?yA0) ?rA0
      case yA0 => (intro w' hSw; (try dsimp only at hSw); go_simp; try with_reducible rfl)
      (try simp only [Act.put, List.getElem_toArray, List.getElem_cons_zero, List.getElem_cons_succ, List.setIfInBounds_toArray, List.set_cons_zero, List.set_cons_succ])
      refine wpDet_take ?vA1 (Bl.stays w3) hS3w (i := 1) rfl (by kernel_rfl) (by kernel_rfl) (by kernel_rfl) (by kernel_rfl) (fun _ _ _ h => h) (Gives.value (by rfl) ?yA1) ?rA1
      case yA1 => (intro w' hSw; have hz0 := hSw.1; (try dsimp only at hSw); go_simp; try with_reducible rfl)
      (try simp only [Act.put, List.getElem_toArray, List.getElem_cons_zero, List.getElem_cons_succ, List.setIfInBounds_toArray, List.set_cons_zero, List.set_cons_succ])
      refine wpDet_take ?vA2 (Bl.stays w3) hS3w (i := 2) rfl (by kernel_rfl) (by kernel_rfl) (by kernel_rfl) (by kernel_rfl) (fun _ _ _ h => h) (Gives.value (by rfl) ?yA2) ?rA2
      case yA2 => (intro w' hSw; (try dsimp only at hSw); go_simp; try with_reducible rfl)
      (try simp only [Act.put, List.getElem_toArray, List.getElem_cons_zero, List.getElem_cons_succ, List.setIfInBounds_toArray, List.set_cons_zero, List.set_cons_succ])
      refine wpDet_take ?vA3 (Bl.stays w3) hS3w (i := 3) rfl (by kernel_rfl) (by kernel_rfl) (by kernel_rfl) (by kernel_rfl) (fun _ _ _ h => h) (Gives.value (by rfl) ?yA3) ?rA3
      case yA3 => (intro w' hSw; (try dsimp only at hSw); go_simp; try with_reducible rfl)
      (try simp only [Act.put, List.getElem_toArray, List.getElem_cons_zero, List.getElem_cons_succ, List.setIfInBounds_toArray, List.set_cons_zero, List.set_cons_succ])
      refine wpDet_take ?vA4 (Bl.stays w3) hS3w (i := 4) rfl (by kernel_rfl) (by kernel_rfl) (by kernel_rfl) (by kernel_rfl) (fun _ _ _ h => h) (Gives.value (by rfl) ?yA4) ?rA4
      case yA4 => (intro w' hSw; (try dsimp only at hSw); go_simp; try with_reducible rfl)
      (try simp only [Act.put, List.getElem_toArray, List.getElem_cons_zero, List.getElem_cons_succ, List.setIfInBounds_toArray, List.set_cons_zero, List.set_cons_succ])
      refine wpDet_take ?vA5 (Bl.stays w3) hS3w (i := 5) rfl (by kernel_rfl) (by kernel_rfl) (by kernel_rfl) (by kernel_rfl) (fun _ _ _ h => h) (Gives.value (by rfl) ?yA5) ?rA5
      case yA5 => (intro w' hSw; (try dsimp only at hSw); go_simp; try with_reducible rfl)
      (try simp only [Act.put, List.getElem_toArray, List.getElem_cons_zero, List.getElem_cons_succ, List.setIfInBounds_toArray, List.set_cons_zero, List.set_cons_succ])
      refine wpDet_take ?vA6 (Bl.stays w3) hS3w (i := 6) rfl (by kernel_rfl) (by kernel_rfl) (by kernel_rfl) (by kernel_rfl) (fun _ _ _ h => h) (Gives.value (by rfl) ?yA6) ?rA6
      case yA6 => (intro w' hSw; have hz0 := hSw.2; (try dsimp only at hSw); go_simp; try with_reducible rfl)
      (try simp only [Act.put, List.getElem_toArray, List.getElem_cons_zero, List.getElem_cons_succ, List.setIfInBounds_toArray, List.set_cons_zero, List.set_cons_succ])
      refine wpDet_take ?vA7 (Bl.stays w3) hS3w (i := 7) rfl (by kernel_rfl) (by kernel_rfl) (by kernel_rfl) (by kernel_rfl) (fun _ _ _ h => h) (Gives.value (by rfl) ?yA7) ?rA7
      case yA7 => (intro w' hSw; (try dsimp only at hSw); go_simp; try with_reducible rfl)
      (try simp only [Act.put, List.getElem_toArray, List.getElem_cons_zero, List.getElem_cons_succ, List.setIfInBounds_toArray, List.set_cons_zero, List.set_cons_succ])
      refine wpDet_done (by kernel_rfl) (fun w4 hW4 => ?_) _
      have hbW := Bl.out' hW4
      have hI4 := hI3.below hbW
      have hG4 := hG3.below hbW
      have hi4 : ∀ r : Int, r = (scT tl k).2.1.gen → Hid (r = (scT tl k).2.1.gen) := fun _ h => h
      by_cases hgen : (scT tl k).2.1.gen < gen2
      · have kd : decide ((scT tl k).2.1.gen < gen2) = true := decide_eq_true hgen
        have HS : Hid (scT tl (k + 1) = (k, r2, b2)) := by
          show scT tl (k + 1) = _
          rw [HR2.out, HB2.out]
          unfold scT
          rw [if_pos (by rw [← HR2.out, ← HG2.out]; exact hgen)]
        have HI4 : Hid (OI w w4 g gt (scT tl k).1 0 (scT tl k).2.1 pb nb cb pr cr vs) := hI4
        have hb24 : Below w2.heap.size w2 w4 := by
          rw [← hw3] at hbW
          exact (below_alloc w2 _).trans (hbW.mono (by simp))
        have HO4 : Hid (Ow .u8 5 w4 w1.heap.size pb2 nb2 cb2 r2.base) := hO2.below hb24
        have HV4 : Hid (OwG 22 w4 w1.heap.size pr2 r2.recs.length cr2 vs2) := by show OwG _ _ _ _ _ _ _; rw [← HN2.out]; exact hV2.below hb24
        have HS4 : Hid (Slo 5 w4 w1.heap.size vs2 r2.recs) := hS2.below hb24
        clear hb24 hbW hO2 hV2 hS2
        have b0 : w4.cell? ⟨gb, 0, none⟩ = some (.int .i64 gen2) := hG4.cell 0
        have b1 : w4.cell? ⟨gb, 1, none⟩ = some (.slice pb2 nb2 cb2) := hG4.cell 1
        have b3 : w4.cell? ⟨gb, 2, none⟩ = some (.slice pr2 n2 cr2) := hG4.cell 2
        have t1 : w4.cell? ⟨gt, 1, none⟩ = some (.int .i64 (scT tl k).1) := hI4.blk.cell 1
        have t3 : w4.cell? ⟨gt, 3, none⟩ = some (.int .i64 (scT tl k).2.1.gen) := hI4.blk.cell 3
        have t4 : w4.cell? ⟨gt, 4, none⟩ = some (.slice pb nb cb) := hI4.blk.cell 4
        have t5 : w4.cell? ⟨gt, 5, none⟩ = some (.slice pr (scT tl k).2.1.recs.length cr) := hI4.blk.cell 5
        have hne : gb ≠ gt := fun e => by
          have h1 : gt < w2.heap.size := by rw [HGT.out]; exact Nat.lt_of_lt_of_le (HI0.out) (Nat.le_trans hb1.size hb2.size)
          omega
        have HW3 : Hid (w2.alloc (.cells #[.int .i64 gen2, .slice pb2 nb2 cb2, .slice pr2 n2 cr2] 72) = w3) := hw3
        have HGB : Hid (w2.heap.size = gb) := hgb
        clear hw3 hgb
        have f1 := hI4.blk.free 1
        have f3 := hI4.blk.free 3
        have f4 := hI4.blk.free 4
        have f5 := hI4.blk.free 5
        clear hI3 hG3 HI3 HG3 hS3w hS3 hW4 hi4 hI4
        go_wp2_with fail
        have hI5 := HI4.out.load k r2 w1.heap.size (Nat.lt_of_lt_of_le HI0.out hb1.size) (HO4.out) HV4.out HS4.out
        rw [← HG2.out, ← HN2.out] at hI5
        go_roundw
        case rel => exact ⟨k + 1, pb2, nb2, cb2, pr2, cr2, vs2, by omega, by go_num, by rw [HS.out], by rw [HS.out]; exact hI5⟩
        case measure => simp [intOf]; omega
      · have kd : decide ((scT tl k).2.1.gen < gen2) = false := decide_eq_false hgen
        have HS : Hid (scT tl (k + 1) = scT tl k) := by
          show scT tl (k + 1) = _
          rw [scT, if_neg (by rw [← HR2.out, ← HG2.out]; exact hgen)]
        have HI4 : Hid (OI w w4 g gt (scT tl k).1 0 (scT tl k).2.1 pb nb cb pr cr vs) := hI4
        clear hI3 hG3 HI3 HG3 hS3w hS3 hW4 hi4 hI4 hG4
        go_wp2_with fail
        go_roundw
        case rel => exact ⟨k + 1, pb, nb, cb, pr, cr, vs, by omega, by go_num, by rw [HS.out], by rw [HS.out]; exact HI4.out⟩
        case measure => simp [intOf]; omega
    · obtain rfl : k = 2 := by omega
      have hlt : decide (((2 : Nat) : Int) < 2) = false := by decide
      have hI5 := hI.keep (scT tl 2).2.1.recs.length
      have c5 : wr.cell? ⟨gt, 5, none⟩ = some (.slice pr (scT tl 2).2.1.recs.length cr) := hI.blk.cell 5
      have c2 : wr.cell? ⟨gt, 2, none⟩ = some (.int .i64 ((0 : Nat) : Int)) := hI.blk.cell 2
      have f2 := hI.blk.free 2
      have HI5 : Hid (OI w (wr.setCell ⟨gt, 2, none⟩ (.int .i64 (scT tl 2).2.1.recs.length)) g gt (scT tl 2).1 (scT tl 2).2.1.recs.length (scT tl 2).2.1 pb nb cb pr cr vs) := hI5
      clear hI hI5 hk hk2 hA0 hba
      cases hwh : (scT tl 2).2.2 with
      | true =>
        go_wp2_with fail
        go_ret2
        exact Or.inl ⟨hwh, gt, pb, nb, cb, pr, cr, vs, rfl, HI5.out⟩
      | false =>
        obtain ⟨n5, HN5⟩ : ∃ z, Hid (z = (scT tl 2).2.1.recs.length) := ⟨_, rfl⟩
        rw [← HN5.out] at c5
        have HI6 : Hid (OI w (wr.setCell ⟨gt, 2, none⟩ (.int .i64 n5)) g gt (scT tl 2).1 (scT tl 2).2.1.recs.length (scT tl 2).2.1 pb nb cb pr cr vs) := by show OI _ _ _ _ _ _ _ _ _ _ _ _ _; rw [HN5.out]; exact HI5.out
        clear HI5
        go_wp2_with fail
        generalize wr.setCell ⟨gt, 2, none⟩ (.int .i64 n5) = w5 at HI6 ⊢
        have HS2 : Hid (∀ V, Below w5.heap.size w5 V → Calls Try.prog 21 #[.pointer (some ⟨gt, 0, none⟩), .slice pb nb cb, .slice pr n5 cr] V fun e w' => ∃ c, e = .returned (.int .i64 c) ∧ PS c gt w') := fun V hV => by
          rw [HN5.out]
          exact HSv.out hwh V gt pb nb cb pr cr vs (HI6.out.below hV)
        have hS5w : ∀ W, Bl w5 W → (W.cell? ⟨gt, 4, none⟩ = some (.slice pb nb cb) ∧ W.cell? ⟨gt, 5, none⟩ = some (.slice pr n5 cr)) := fun W hW => ⟨cell_below (Bl.out' hW) (HI6.out.blk.cell 4), cell_below (Bl.out' hW) (by rw [HN5.out]; exact HI6.out.blk.cell 5)⟩
        have hS5 : Bl w5 w5.drew := (Below.refl _ _).drew
        clear c5 c2 f2
        refine wp_region_dyn [0, 1, 2, 3, 4, 5, 6, 7, 8, 9, 10] (fun W => W.cell? ⟨gt, 4, none⟩ = some (.slice pb nb cb) ∧ W.cell? ⟨gt, 5, none⟩ = some (.slice pr n5 cr)) (Bl w5) (by kernel_rfl) hS5 ?_
        refine wpDyn_take ?vB0 (Bl.stays w5) hS5w (i := 0) rfl (by kernel_rfl) (by kernel_rfl) (by kernel_rfl) (by kernel_rfl) (by kernel_rfl) (fun _ _ _ h => h) (Gives.value (by rfl) ?yB0) ?rB0
        case yB0 => (intro w' hSw; (try dsimp only at hSw); go_simp; try with_reducible rfl)
        (try simp only [Act.put, List.getElem_toArray, List.getElem_cons_zero, List.getElem_cons_succ, List.setIfInBounds_toArray, List.set_cons_zero, List.set_cons_succ])
        refine wpDyn_take ?vB1 (Bl.stays w5) hS5w (i := 1) rfl (by kernel_rfl) (by kernel_rfl) (by kernel_rfl) (by kernel_rfl) (by kernel_rfl) (fun _ _ _ h => h) (Gives.value (by rfl) ?yB1) ?rB1
        case yB1 => (intro w' hSw; (try dsimp only at hSw); go_simp; try with_reducible rfl)
        (try simp only [Act.put, List.getElem_toArray, List.getElem_cons_zero, List.getElem_cons_succ, List.setIfInBounds_toArray, List.set_cons_zero, List.set_cons_succ])
        refine wpDyn_take ?vB2 (Bl.stays w5) hS5w (i := 2) rfl (by kernel_rfl) (by kernel_rfl) (by kernel_rfl) (by kernel_rfl) (by kernel_rfl) (fun _ _ _ h => h) (Gives.value (by rfl) ?yB2) ?rB2
        case yB2 => (intro w' hSw; (try dsimp only at hSw); go_simp; try with_reducible rfl)
        (try simp only [Act.put, List.getElem_toArray, List.getElem_cons_zero, List.getElem_cons_succ, List.setIfInBounds_toArray, List.set_cons_zero, List.set_cons_succ])
        refine wpDyn_take ?vB3 (Bl.stays w5) hS5w (i := 3) rfl (by kernel_rfl) (by kernel_rfl) (by kernel_rfl) (by kernel_rfl) (by kernel_rfl) (fun _ _ _ h => h) (Gives.value (by rfl) ?yB3) ?rB3
        case yB3 => (intro w' hSw; (try dsimp only at hSw); go_simp; try with_reducible rfl)
        (try simp only [Act.put, List.getElem_toArray, List.getElem_cons_zero, List.getElem_cons_succ, List.setIfInBounds_toArray, List.set_cons_zero, List.set_cons_succ])
        refine wpDyn_take ?vB4 (Bl.stays w5) hS5w (i := 4) rfl (by kernel_rfl) (by kernel_rfl) (by kernel_rfl) (by kernel_rfl) (by kernel_rfl) (fun _ _ _ h => h) (Gives.value (by rfl) ?yB4) ?rB4
        case yB4 => (intro w' hSw; (try dsimp only at hSw); go_simp; try with_reducible rfl)
        (try simp only [Act.put, List.getElem_toArray, List.getElem_cons_zero, List.getElem_cons_succ, List.setIfInBounds_toArray, List.set_cons_zero, List.set_cons_succ])
        refine wpDyn_take ?vB5 (Bl.stays w5) hS5w (i := 5) rfl (by kernel_rfl) (by kernel_rfl) (by kernel_rfl) (by kernel_rfl) (by kernel_rfl) (fun _ _ _ h => h) (Gives.value (by rfl) ?yB5) ?rB5
        case yB5 => (intro w' hSw; have hz0 := hSw.1; (try dsimp only at hSw); go_simp; try with_reducible rfl)
        (try simp only [Act.put, List.getElem_toArray, List.getElem_cons_zero, List.getElem_cons_succ, List.setIfInBounds_toArray, List.set_cons_zero, List.set_cons_succ])
        refine wpDyn_take ?vB6 (Bl.stays w5) hS5w (i := 6) rfl (by kernel_rfl) (by kernel_rfl) (by kernel_rfl) (by kernel_rfl) (by kernel_rfl) (fun _ _ _ h => h) (Gives.value (by rfl) ?yB6) ?rB6
        case yB6 => (intro w' hSw; (try dsimp only at hSw); go_simp; try with_reducible rfl)
        (try simp only [Act.put, List.getElem_toArray, List.getElem_cons_zero, List.getElem_cons_succ, List.setIfInBounds_toArray, List.set_cons_zero, List.set_cons_succ])
        refine wpDyn_take ?vB7 (Bl.stays w5) hS5w (i := 7) rfl (by kernel_rfl) (by kernel_rfl) (by kernel_rfl) (by kernel_rfl) (by kernel_rfl) (fun _ _ _ h => h) (Gives.value (by rfl) ?yB7) ?rB7
        case yB7 => (intro w' hSw; (try dsimp only at hSw); go_simp; try with_reducible rfl)
        (try simp only [Act.put, List.getElem_toArray, List.getElem_cons_zero, List.getElem_cons_succ, List.setIfInBounds_toArray, List.set_cons_zero, List.set_cons_succ])
        refine wpDyn_take ?vB8 (Bl.stays w5) hS5w (i := 8) rfl (by kernel_rfl) (by kernel_rfl) (by kernel_rfl) (by kernel_rfl) (by kernel_rfl) (fun _ _ _ h => h) (Gives.value (by rfl) ?yB8) ?rB8
        case yB8 => (intro w' hSw; (try dsimp only at hSw); go_simp; try with_reducible rfl)
        (try simp only [Act.put, List.getElem_toArray, List.getElem_cons_zero, List.getElem_cons_succ, List.setIfInBounds_toArray, List.set_cons_zero, List.set_cons_succ])
        refine wpDyn_take ?vB9 (Bl.stays w5) hS5w (i := 9) rfl (by kernel_rfl) (by kernel_rfl) (by kernel_rfl) (by kernel_rfl) (by kernel_rfl) (fun _ _ _ h => h) (Gives.value (by rfl) ?yB9) ?rB9
        case yB9 => (intro w' hSw; (try dsimp only at hSw); go_simp; try with_reducible rfl)
        (try simp only [Act.put, List.getElem_toArray, List.getElem_cons_zero, List.getElem_cons_succ, List.setIfInBounds_toArray, List.set_cons_zero, List.set_cons_succ])
        refine wpDyn_take ?vB10 (Bl.stays w5) hS5w (i := 10) rfl (by kernel_rfl) (by kernel_rfl) (by kernel_rfl) (by kernel_rfl) (by kernel_rfl) (fun _ _ _ h => h) (Gives.value (by rfl) ?yB10) ?rB10
        case yB10 => (intro w' hSw; have hz0 := hSw.2; (try dsimp only at hSw); go_simp; try with_reducible rfl)
        (try simp only [Act.put, List.getElem_toArray, List.getElem_cons_zero, List.getElem_cons_succ, List.setIfInBounds_toArray, List.set_cons_zero, List.set_cons_succ])
        refine wpDyn_ready (rs := [11]) (by kernel_rfl) (by simp) (AllDyn.cons rfl (fun V hV K hK => ?_) AllDyn.nil)
        rw [if_pos (by rfl)]
        have hbV := Bl.out' hV
        have hS := HS2.out V hbV
        refine wp_enterX 21 #[.pointer (some ⟨gt, 0, none⟩), .slice pb nb cb, .slice pr n5 cr] (by first | (go_simp; done) | (go_simp; rfl)) (fun v V' => ∃ c, v = .int .i64 c ∧ PS c gt V') (hS.mono fun e V' ⟨c, h1, h2⟩ => ⟨_, h1, c, rfl, h2⟩) ?_
        rintro v V1 ⟨c, rfl, hP⟩
        refine hK.out (fun W => PS c gt W) _ _ (fun _ _ h hb => HPS.out _ _ _ _ h hb) (no_leanT (by kernel_rfl)) hP ?_
        clear hK K hV hS hbV
        (try simp only [Act.put, List.getElem_toArray, List.getElem_cons_zero, List.getElem_cons_succ, List.setIfInBounds_toArray, List.set_cons_zero, List.set_cons_succ])
        refine wpDyn_ready (rs := [12]) (by kernel_rfl) (by simp) (AllDyn.cons rfl (fun V hV K hK => ?_) AllDyn.nil)
        rw [if_pos (by rfl)]
        refine wp_value (.int .i64 c) V (by first | (go_simp; done) | (go_simp; rfl)) ?_
        refine hK.out (fun W => PS c gt W) _ _ (fun _ _ h hb => HPS.out _ _ _ _ h hb) (no_leanT (by kernel_rfl)) hV ?_
        clear hK K hV
        (try simp only [Act.put, List.getElem_toArray, List.getElem_cons_zero, List.getElem_cons_succ, List.setIfInBounds_toArray, List.set_cons_zero, List.set_cons_succ])
        refine wpDyn_done (by kernel_rfl) (fun W2 hW2 => ?_) _
        clear hS5w hS5
        by_cases hc0 : c = 0
        · subst hc0
          go_wp2_with fail
          go_ret2
          exact Or.inr ⟨hwh, 0, gt, rfl, hW2⟩
        · have hcn : (c != 0) = true := by simpa using hc0
          go_wp2_with fail
          go_ret2
          exact Or.inr ⟨hwh, c, gt, by show _ = Ending.returned (.tuple #[opT c gt, .int .i64 c]); unfold opT; rw [if_neg hc0]; rfl, hW2⟩

end Go.Proofs.Ytpjhadaiodnnaaa.M
