/-
  Own text: the example of the statements over plans.
-/
import Derived.Test.YtigojnpjpagfjaaDoorVEq
namespace Go.Proofs.YtigojnpjpagfjaaDoor.M
open Go.ChangeShapes Go.WideShapes Go.ChangeAt Go.RowKit

theorem Rd.two (k : IntKind) (w : World) (e : TypeId) (x y : Int) : Rd k (w.alloc (.cells #[.int k x, .int k y] e)) (some ⟨w.heap.size, 0, none⟩) 2 2 [x, y] := by
  refine ⟨rfl, Nat.le_refl _, (fun h => by cases h), fun _ => ⟨w.heap.size, 0, rfl, fun i hi => ?_⟩⟩
  match i, hi with
  | 0, _ => simp
  | 1, _ => simp

theorem rdc_two (w : World) (x y : Cm) : RdC (w.alloc (.cells #[.int .i64 x.k, .int .i64 x.n, .int .i64 x.s, .int .i64 x.e, .int .i64 y.k, .int .i64 y.n, .int .i64 y.s, .int .i64 y.e] 37)) (some ⟨w.heap.size, 0, none⟩) 2 2 [x, y] := by
  refine ⟨rfl, Nat.le_refl _, (fun e => by cases e), fun _ => ⟨_, 0, rfl, fun i hi => ?_⟩⟩
  match i, hi with
  | 0, _ => exact ⟨by simp, by simp, by simp, by simp⟩
  | 1, _ => exact ⟨by simp, by simp, by simp, by simp⟩

theorem there2 {w : World} {x : Nat} {u v : Value} (h : At 28 w x #[u, v]) : w.there x 0 2 := fun j hj => by
  rw [Nat.zero_add]
  match j, hj with
  | 0, _ => exact ⟨by rw [h.cell 0]; rfl, h.free 0⟩
  | 1, _ => exact ⟨by rw [h.cell 1]; rfl, h.free 1⟩

/-- Conditions on worlds while the example is made. -/
def AwC (w0 : World) (P B : World → Prop) (W : World) : Prop := Bl w0 W ∧ P W ∧ B W
def NoC (_ : World) : Prop := True
def SlC (y : Nat) (W : World) : Prop := Rd .i64 W (some ⟨y, 0, none⟩) 2 2 [0, 2]
def OuC (q : Option Addr) (c : Nat) (q2 : Option Addr) (c2 : Nat) (W : World) : Prop := RdC W q 2 c [⟨1, 1, 0, 1⟩, ⟨2, 2, 1, 2⟩] ∧ RdM W q2 2 c2 [⟨0, 0, false⟩, ⟨2, 1, false⟩]
def BxC (x : Nat) (W : World) : Prop := At 28 W x #[.int .i64 0, .slice none 0 0]

theorem AwC.stays {w0 : World} {P B : World → Prop} (hP : Stays P) (hB : Stays B) : Stays (AwC w0 P B) := fun _ _ h hb => ⟨Bl.stays w0 _ _ h.1 hb, hP _ _ h.2.1 hb, hB _ _ h.2.2 hb⟩
theorem NoC.stays : Stays NoC := fun _ _ _ _ => trivial
theorem SlC.stays (y : Nat) : Stays (SlC y) := fun _ _ h hb => Rd.below h hb
theorem OuC.stays (q : Option Addr) (c : Nat) (q2 : Option Addr) (c2 : Nat) : Stays (OuC q c q2 c2) := fun _ _ h hb => ⟨h.1.below hb, h.2.below hb⟩
theorem BxC.stays (x : Nat) : Stays (BxC x) := fun _ _ h hb => At.below h hb

theorem All_ex (p : Option Addr) (c0 : Nat) (w : World) (hr : RdM w p 2 c0 [⟨0, 0, false⟩, ⟨1, 1, false⟩]) (ht : Tab w) :
    Calls Tryd.prog 17 #[.agg #[.int .i64 1, .slice p 2 c0], .int .u64 5, .agg #[.int .i64 0, .int .i64 1, .int .i64 1, .int .i64 0, .int .i64 0, .int .i64 0], .agg #[.int .i64 1, .int .i64 1, .int .i64 0]] w fun r w' => ∃ v, r = .returned v ∧ (∃ q c q2 c2, v = .tuple #[.slice q 2 c, .agg #[.int .i64 3, .slice q2 2 c2], .int .i64 0] ∧ RdC w' q 2 c [⟨1, 1, 0, 1⟩, ⟨2, 2, 1, 2⟩] ∧ RdM w' q2 2 c2 [⟨0, 0, false⟩, ⟨2, 1, false⟩] ∧ (∀ a, q = some a → w.heap.size ≤ a.block) ∧ (∀ a, q2 = some a → w.heap.size ≤ a.block)) ∧ Below w.heap.size w w' := by
  refine (All_ok 1 p 2 c0 [⟨0, 0, false⟩, ⟨1, 1, false⟩] 5 0 1 1 0 0 0 1 1 0 (by decide) w (by decide) hr (by decide) ht (by kernel_rfl) (by kernel_rfl)).mono ?_
  rintro r w' ⟨L, e2, ms2, q, c, q2, c2, rfl, hst, _, _, h1, h2, ⟨h3, h4⟩, hb⟩
  obtain ⟨rfl, rfl, rfl⟩ := hst.det ex_steps
  exact ⟨_, rfl, ⟨q, c, q2, c2, rfl, h1, h2, h3, fun a ha => h4 a ha (by decide)⟩, hb⟩

set_option linter.unusedSimpArgs false in
set_option maxRecDepth 20000 in
set_option maxHeartbeats 8000000 in
theorem awake_any (w : World) (ht : Tab w) : Calls Tryd.prog 9 #[] w fun r w' => r = .returned (.bool true) ∧ Below w.heap.size w w' := by
  have hb0 : Below w.heap.size w ((w.alloc (.cells #[.int .i64 0, .int .i64 0, .bool false, .int .i64 1, .int .i64 1, .bool false] 45)).alloc (.cells #[.int .i64 1, .slice (some ⟨w.heap.size, 0, none⟩) 2 2] 28)) := ((Below.refl _ _).alloc (Nat.le_refl _) _).alloc (by simp) _
  have hr0 : RdM ((w.alloc (.cells #[.int .i64 0, .int .i64 0, .bool false, .int .i64 1, .int .i64 1, .bool false] 45)).alloc (.cells #[.int .i64 1, .slice (some ⟨w.heap.size, 0, none⟩) 2 2] 28)) (some ⟨w.heap.size, 0, none⟩) 2 2 [⟨0, 0, false⟩, ⟨1, 1, false⟩] := (rdm_two w ⟨0, 0, false⟩ ⟨1, 1, false⟩).below (below_alloc _ _)
  have hC0 : At 28 ((w.alloc (.cells #[.int .i64 0, .int .i64 0, .bool false, .int .i64 1, .int .i64 1, .bool false] 45)).alloc (.cells #[.int .i64 1, .slice (some ⟨w.heap.size, 0, none⟩) 2 2] 28)) (w.heap.size + 1) #[.int .i64 1, .slice (some ⟨w.heap.size, 0, none⟩) 2 2] := At.moved (by simp) (At.new _ _ _)
  have ht0 := ht.below hb0
  generalize hw : w.heap.size = b at *
  go_enter Tryd.func9, Tryd.ntmps9
  go_wp2_with fail
  (try rw [hw])
  generalize ((w.alloc (.cells #[.int .i64 0, .int .i64 0, .bool false, .int .i64 1, .int .i64 1, .bool false] 45)).alloc (.cells #[.int .i64 1, .slice (some ⟨b, 0, none⟩) 2 2] 28)) = w0 at *
  have hCd : ∀ W, Bl w0 W → (fun W : World => At 28 W (b + 1) #[.int .i64 1, .slice (some ⟨b, 0, none⟩) 2 2]) W := fun W h => hC0.below (Bl.out0 h)
  have hS0 : AwC w0 NoC NoC w0.drew := ⟨(Below.refl _ _).drew, trivial, trivial⟩
  refine wp_region_det [0, 3, 4, 6, 7, 8, 9, 11, 13] (fun W => At 28 W (b + 1) #[.int .i64 1, .slice (some ⟨b, 0, none⟩) 2 2]) (AwC w0 NoC NoC) (by kernel_rfl) hS0 ?_
  refine wpDet_take ?vZ1 (AwC.stays NoC.stays NoC.stays) (fun _ h => hCd _ h.1) (i := 0) rfl (by kernel_rfl) (by kernel_rfl) (by kernel_rfl) (by kernel_rfl) (fun _ _ _ h => h) (Gives.value (by rfl) ?yZ1) ?rZ1
  case yZ1 => (intro w' hSw; obtain ⟨z0, z1⟩ := At.two hSw; clear hSw; go_simp; try with_reducible rfl)
  (try simp only [Act.put, List.getElem_toArray, List.getElem_cons_zero, List.getElem_cons_succ, List.setIfInBounds_toArray, List.set_cons_zero, List.set_cons_succ])
  refine wpDet_take ?vZ2 (AwC.stays NoC.stays NoC.stays) (fun _ h => hCd _ h.1) (i := 3) rfl (by kernel_rfl) (by kernel_rfl) (by kernel_rfl) (by kernel_rfl) (fun _ _ _ h => h) (Gives.value (by rfl) ?yZ2) ?rZ2
  case yZ2 => (intro w' hSw; go_simp; try with_reducible rfl)
  (try simp only [Act.put, List.getElem_toArray, List.getElem_cons_zero, List.getElem_cons_succ, List.setIfInBounds_toArray, List.set_cons_zero, List.set_cons_succ])
  refine wpDet_take ?vZ3 (AwC.stays NoC.stays NoC.stays) (fun _ h => hCd _ h.1) (i := 4) rfl (by kernel_rfl) (by kernel_rfl) (by kernel_rfl) (by kernel_rfl) (fun _ _ _ h => h) (Gives.value (by rfl) ?yZ3) ?rZ3
  case yZ3 => (intro w' hSw; go_simp; try with_reducible rfl)
  (try simp only [Act.put, List.getElem_toArray, List.getElem_cons_zero, List.getElem_cons_succ, List.setIfInBounds_toArray, List.set_cons_zero, List.set_cons_succ])
  refine wpDet_ready (rs := [1, 10]) (by kernel_rfl) (by simp) (AllDet.cons rfl (fun V hV K hK => ?_) (AllDet.cons rfl (fun V hV K hK => ?_) AllDet.nil))
  · rw [if_pos (by rfl)]
    refine wp_value (.slice (some ⟨V.heap.size, 0, none⟩) 2 2) (V.alloc (.cells #[.int .i64 0, .int .i64 2] 3)) (by first | (go_simp; done) | (go_simp; rfl)) ?_
    refine hK.out (AwC w0 (SlC V.heap.size) NoC) _ _ (AwC.stays (SlC.stays _) NoC.stays) (fun _ _ h => hCd _ h.1) ⟨Bl.stays w0 V _ hV.1 (below_alloc _ _), Rd.two _ _ _ _ _, NoC.stays _ _ hV.2.2 (below_alloc _ _)⟩ ?_
    clear hK K hV
    generalize V.heap.size = y at *
    (try simp only [Act.put, List.getElem_toArray, List.getElem_cons_zero, List.getElem_cons_succ, List.setIfInBounds_toArray, List.set_cons_zero, List.set_cons_succ])
    refine wpDet_ready (rs := [2, 10]) (by kernel_rfl) (by simp) (AllDet.cons rfl (fun V hV K hK => ?_) (AllDet.cons rfl (fun V hV K hK => ?_) AllDet.nil))
    · rw [if_pos (by rfl)]
      refine wp_enterE 37 #[.slice (some ⟨y, 0, none⟩) 2 2] (by first | (go_simp; done) | (go_simp; rfl)) (fun v W => v = .int .u64 5 ∧ W = V) ((of_any _ 2 2 _ V hV.2.1 (by decide)).mono fun e' w' hh => ⟨_, hh.1, rfl, hh.2⟩) ?_
      rintro v7 V7 ⟨rfl, rfl⟩
      refine hK.out (AwC w0 NoC NoC) _ _ (AwC.stays NoC.stays NoC.stays) (fun _ _ h => hCd _ h.1) ⟨hV.1, trivial, hV.2.2⟩ ?_
      clear hK K hV
      (try simp only [Act.put, List.getElem_toArray, List.getElem_cons_zero, List.getElem_cons_succ, List.setIfInBounds_toArray, List.set_cons_zero, List.set_cons_succ])
      refine wpDet_ready (rs := [5, 10]) (by kernel_rfl) (by simp) (AllDet.cons rfl (fun V hV K hK => ?_) (AllDet.cons rfl (fun V hV K hK => ?_) AllDet.nil))
      · rw [if_pos (by rfl)]
        refine wp_enterE 17 #[.agg #[.int .i64 1, .slice (some ⟨b, 0, none⟩) 2 2], .int .u64 5, .agg #[.int .i64 0, .int .i64 1, .int .i64 1, .int .i64 0, .int .i64 0, .int .i64 0], .agg #[.int .i64 1, .int .i64 1, .int .i64 0]] (by first | (go_simp; done) | (go_simp; rfl)) _ (All_ex _ _ V (hr0.below (Bl.out0 hV.1)) (ht0.below (Bl.out0 hV.1))) ?_
        rintro v7 V7 ⟨⟨q, c, q2, c2, rfl, hR1, hR2, hq1, hq2⟩, hb7⟩
        refine hK.out (AwC w0 (OuC q c q2 c2) NoC) _ _ (AwC.stays (OuC.stays q c q2 c2) NoC.stays) (fun _ _ h => hCd _ h.1) ⟨Bl.stays w0 V _ hV.1 hb7, ⟨hR1, hR2⟩, NoC.stays _ _ hV.2.2 hb7⟩ ?_
        clear hK K hV hb7 hR1 hR2 hq1 hq2
        (try simp only [Act.put, List.getElem_toArray, List.getElem_cons_zero, List.getElem_cons_succ, List.setIfInBounds_toArray, List.set_cons_zero, List.set_cons_succ])
        refine wpDet_take ?vZ4 (AwC.stays (OuC.stays q c q2 c2) NoC.stays) (fun _ h => hCd _ h.1) (i := 6) rfl (by kernel_rfl) (by kernel_rfl) (by kernel_rfl) (by kernel_rfl) (fun _ _ _ h => h) (Gives.value (by rfl) ?yZ4) ?rZ4
        case yZ4 => (intro w' hSw; go_simp; try with_reducible rfl)
        (try simp only [Act.put, List.getElem_toArray, List.getElem_cons_zero, List.getElem_cons_succ, List.setIfInBounds_toArray, List.set_cons_zero, List.set_cons_succ])
        refine wpDet_take ?vZ5 (AwC.stays (OuC.stays q c q2 c2) NoC.stays) (fun _ h => hCd _ h.1) (i := 7) rfl (by kernel_rfl) (by kernel_rfl) (by kernel_rfl) (by kernel_rfl) (fun _ _ _ h => h) (Gives.value (by rfl) ?yZ5) ?rZ5
        case yZ5 => (intro w' hSw; go_simp; try with_reducible rfl)
        (try simp only [Act.put, List.getElem_toArray, List.getElem_cons_zero, List.getElem_cons_succ, List.setIfInBounds_toArray, List.set_cons_zero, List.set_cons_succ])
        refine wpDet_take ?vZ6 (AwC.stays (OuC.stays q c q2 c2) NoC.stays) (fun _ h => hCd _ h.1) (i := 8) rfl (by kernel_rfl) (by kernel_rfl) (by kernel_rfl) (by kernel_rfl) (fun _ _ _ h => h) (Gives.value (by rfl) ?yZ6) ?rZ6
        case yZ6 => (intro w' hSw; go_simp; try with_reducible rfl)
        (try simp only [Act.put, List.getElem_toArray, List.getElem_cons_zero, List.getElem_cons_succ, List.setIfInBounds_toArray, List.set_cons_zero, List.set_cons_succ])
        refine wpDet_take ?vZ7 (AwC.stays (OuC.stays q c q2 c2) NoC.stays) (fun _ h => hCd _ h.1) (i := 9) rfl (by kernel_rfl) (by kernel_rfl) (by kernel_rfl) (by kernel_rfl) (fun _ _ _ h => h) (Gives.value (by rfl) ?yZ7) ?rZ7
        case yZ7 => (intro w' hSw; go_simp; try with_reducible rfl)
        (try simp only [Act.put, List.getElem_toArray, List.getElem_cons_zero, List.getElem_cons_succ, List.setIfInBounds_toArray, List.set_cons_zero, List.set_cons_succ])
        refine wpDet_ready (rs := [10]) (by kernel_rfl) (by simp) (AllDet.cons rfl (fun V hV K hK => ?_) AllDet.nil)
        rw [if_pos (by rfl)]
        refine wp_value (.pointer (some ⟨V.heap.size, 0, none⟩)) (V.alloc (.cells #[.int .i64 0, .slice none 0 0] 28)) (by first | (go_simp; done) | (go_simp; rfl)) ?_
        have hqx : ∀ a, q = some a → a.block ≠ V.heap.size := fun a ha => by
          obtain ⟨g, o, e1, hc⟩ := hV.2.1.1.cells (by decide)
          rw [ha] at e1
          cases e1
          exact Nat.ne_of_lt (World.block_lt_of_cell? _ _ (hc 0 (by decide)).1)
        have hq2x : ∀ a, q2 = some a → a.block ≠ V.heap.size := fun a ha => by
          obtain ⟨g, o, e1, hc⟩ := hV.2.1.2.cells (by decide)
          rw [ha] at e1
          cases e1
          exact Nat.ne_of_lt (World.block_lt_of_cell? _ _ (hc 0 (by decide)).1)
        have hxl : w0.heap.size ≤ V.heap.size := (Bl.out0 hV.1).size
        refine hK.out (AwC w0 (OuC q c q2 c2) (BxC V.heap.size)) _ _ (AwC.stays (OuC.stays q c q2 c2) (BxC.stays _)) (fun _ _ h => hCd _ h.1) ⟨Bl.stays w0 V _ hV.1 (below_alloc _ _), (OuC.stays q c q2 c2) _ _ hV.2.1 (below_alloc _ _), At.new _ _ _⟩ ?_
        clear hK K hV
        generalize V.heap.size = x at *
        (try simp only [Act.put, List.getElem_toArray, List.getElem_cons_zero, List.getElem_cons_succ, List.setIfInBounds_toArray, List.set_cons_zero, List.set_cons_succ])
        refine wpDet_take ?vZ8 (AwC.stays (OuC.stays q c q2 c2) (BxC.stays x)) (fun _ h => hCd _ h.1) (i := 11) rfl (by kernel_rfl) (by kernel_rfl) (by kernel_rfl) (by kernel_rfl) (fun _ _ _ h => h) (Gives.value (by rfl) ?yZ8) ?rZ8
        case yZ8 => (intro w' hSw; go_simp; try with_reducible rfl)
        (try simp only [Act.put, List.getElem_toArray, List.getElem_cons_zero, List.getElem_cons_succ, List.setIfInBounds_toArray, List.set_cons_zero, List.set_cons_succ])
        refine wpDet_ready (rs := [12]) (by kernel_rfl) (by simp) (AllDet.cons rfl (fun V hV K hK => ?_) AllDet.nil)
        rw [if_pos (by rfl)]
        have hAt : At 28 V x #[.int .i64 0, .slice none 0 0] := hV.2.2
        have hth : V.there x 0 2 := there2 hAt
        refine wp_store_mid 28 _ _ rfl x 0 #[.int .i64 3, .slice q2 2 c2] rfl rfl hth sizeC (one2 _ _ _ _) ?_
        refine hK.out (AwC w0 (OuC q c q2 c2) (fun W => At 28 W x #[.int .i64 3, .slice q2 2 c2])) _ _ (AwC.stays (OuC.stays q c q2 c2) (fun _ _ h hb => h.below hb)) (fun _ _ h => hCd _ h.1) ⟨Gr.putB (Bl.out0 hV.1) hxl _ _, ⟨(hV.2.1.1.set1c x 0 _ hqx).set1c x 1 _ hqx, hV.2.1.2.put _ _ (fun a ha _ => hq2x a ha)⟩, hAt.put2 _ _⟩ ?_
        clear hK K hV hth hAt
        (try simp only [Act.put, List.getElem_toArray, List.getElem_cons_zero, List.getElem_cons_succ, List.setIfInBounds_toArray, List.set_cons_zero, List.set_cons_succ])
        refine wpDet_take ?vZ9 (AwC.stays (OuC.stays q c q2 c2) (fun _ _ h hb => h.below hb)) (fun _ h => hCd _ h.1) (i := 13) rfl (by kernel_rfl) (by kernel_rfl) (by kernel_rfl) (by kernel_rfl) (fun _ _ _ h => h) (Gives.value (by rfl) ?yZ9) ?rZ9
        case yZ9 => (intro w' hSw; go_simp; try with_reducible rfl)
        (try simp only [Act.put, List.getElem_toArray, List.getElem_cons_zero, List.getElem_cons_succ, List.setIfInBounds_toArray, List.set_cons_zero, List.set_cons_succ])
        refine wpDet_done (by kernel_rfl) (fun W3 hW3 => ?_) _
        obtain ⟨hB3, ⟨hR1, hR2⟩, hX3⟩ := hW3
        have hbx := hb0.trans ((Bl.out0 hB3).mono (by have := hb0.size; omega))
        obtain ⟨x0, x1⟩ := (show At 28 W3 x #[.int .i64 3, .slice q2 2 c2] from hX3).two
        have hba := below_alloc W3 (.cells #[.int .i64 1, .int .i64 1, .int .i64 0, .int .i64 1, .int .i64 2, .int .i64 2, .int .i64 1, .int .i64 2] 37)
        have hE := equalC_any q (some ⟨W3.heap.size, 0, none⟩) 2 2 c 2 _ _ _ (hR1.below hba) (rdc_two W3 ⟨1, 1, 0, 1⟩ ⟨2, 2, 1, 2⟩) (by decide) (by decide)
        rw [eqCs_self] at hE
        clear hB3 hR1 hr0 ht0 hb0 hCd
        go_wp2_with fail
        refine hE.mono ?_
        rintro r w4 ⟨rfl, hb4⟩
        have hX4 := ((show At 28 W3 x #[.int .i64 3, .slice q2 2 c2] from hX3).below hba).below hb4
        have hR4 := (hR2.below hba).below hb4
        have hB4 := hbx.trans (hba.mono (by have := hbx.size; omega))
        have hB5 := hB4.trans (hb4.mono (by have := hB4.size; omega))
        obtain ⟨x0, x1⟩ := hX4.two
        have hbc := below_alloc w4 (.cells #[.int .i64 0, .int .i64 0, .bool false, .int .i64 2, .int .i64 1, .bool false] 45)
        have hSm := Same_any 3 3 q2 (some ⟨w4.heap.size, 0, none⟩) 2 2 c2 2 _ _ _ (hR4.below hbc) (rdm_two w4 ⟨0, 0, false⟩ ⟨2, 1, false⟩) (by decide) (by decide)
        clear hE hb4 hba hX3 hR2 hbx hB4
        go_wp2_with fail
        refine hSm.mono ?_
        rintro r w5 ⟨rfl, hb5⟩
        have hB6 := hB5.trans (hbc.mono (by have := hB5.size; omega))
        have hB7 := hB6.trans (hb5.mono (by have := hB6.size; omega))
        clear hSm
        go_wp2_with fail
        go_ret
        exact ⟨rfl, hB7⟩
      · rw [if_pos (by rfl)]
        refine wp_value (.pointer (some ⟨V.heap.size, 0, none⟩)) (V.alloc (.cells #[.int .i64 0, .slice none 0 0] 28)) (by first | (go_simp; done) | (go_simp; rfl)) ?_
        have hxl : w0.heap.size ≤ V.heap.size := (Bl.out0 hV.1).size
        refine hK.out (AwC w0 NoC (BxC V.heap.size)) _ _ (AwC.stays NoC.stays (BxC.stays _)) (fun _ _ h => hCd _ h.1) ⟨Bl.stays w0 V _ hV.1 (below_alloc _ _), NoC.stays _ _ hV.2.1 (below_alloc _ _), At.new _ _ _⟩ ?_
        clear hK K hV
        generalize V.heap.size = x at *
        (try simp only [Act.put, List.getElem_toArray, List.getElem_cons_zero, List.getElem_cons_succ, List.setIfInBounds_toArray, List.set_cons_zero, List.set_cons_succ])
        refine wpDet_ready (rs := [5]) (by kernel_rfl) (by simp) (AllDet.cons rfl (fun V hV K hK => ?_) AllDet.nil)
        rw [if_pos (by rfl)]
        refine wp_enterE 17 #[.agg #[.int .i64 1, .slice (some ⟨b, 0, none⟩) 2 2], .int .u64 5, .agg #[.int .i64 0, .int .i64 1, .int .i64 1, .int .i64 0, .int .i64 0, .int .i64 0], .agg #[.int .i64 1, .int .i64 1, .int .i64 0]] (by first | (go_simp; done) | (go_simp; rfl)) _ (All_ex _ _ V (hr0.below (Bl.out0 hV.1)) (ht0.below (Bl.out0 hV.1))) ?_
        rintro v7 V7 ⟨⟨q, c, q2, c2, rfl, hR1, hR2, hq1, hq2⟩, hb7⟩
        have hqx : ∀ a, q = some a → a.block ≠ x := fun a ha => by have := hq1 a ha; have := (show At 28 V x _ from hV.2.2).lt; omega
        have hq2x : ∀ a, q2 = some a → a.block ≠ x := fun a ha => by have := hq2 a ha; have := (show At 28 V x _ from hV.2.2).lt; omega
        refine hK.out (AwC w0 (OuC q c q2 c2) (BxC x)) _ _ (AwC.stays (OuC.stays q c q2 c2) (BxC.stays x)) (fun _ _ h => hCd _ h.1) ⟨Bl.stays w0 V _ hV.1 hb7, ⟨hR1, hR2⟩, (BxC.stays x) _ _ hV.2.2 hb7⟩ ?_
        clear hK K hV hb7 hR1 hR2 hq1 hq2
        (try simp only [Act.put, List.getElem_toArray, List.getElem_cons_zero, List.getElem_cons_succ, List.setIfInBounds_toArray, List.set_cons_zero, List.set_cons_succ])
        refine wpDet_take ?vZ10 (AwC.stays (OuC.stays q c q2 c2) (BxC.stays x)) (fun _ h => hCd _ h.1) (i := 6) rfl (by kernel_rfl) (by kernel_rfl) (by kernel_rfl) (by kernel_rfl) (fun _ _ _ h => h) (Gives.value (by rfl) ?yZ10) ?rZ10
        case yZ10 => (intro w' hSw; go_simp; try with_reducible rfl)
        (try simp only [Act.put, List.getElem_toArray, List.getElem_cons_zero, List.getElem_cons_succ, List.setIfInBounds_toArray, List.set_cons_zero, List.set_cons_succ])
        refine wpDet_take ?vZ11 (AwC.stays (OuC.stays q c q2 c2) (BxC.stays x)) (fun _ h => hCd _ h.1) (i := 7) rfl (by kernel_rfl) (by kernel_rfl) (by kernel_rfl) (by kernel_rfl) (fun _ _ _ h => h) (Gives.value (by rfl) ?yZ11) ?rZ11
        case yZ11 => (intro w' hSw; go_simp; try with_reducible rfl)
        (try simp only [Act.put, List.getElem_toArray, List.getElem_cons_zero, List.getElem_cons_succ, List.setIfInBounds_toArray, List.set_cons_zero, List.set_cons_succ])
        refine wpDet_take ?vZ12 (AwC.stays (OuC.stays q c q2 c2) (BxC.stays x)) (fun _ h => hCd _ h.1) (i := 8) rfl (by kernel_rfl) (by kernel_rfl) (by kernel_rfl) (by kernel_rfl) (fun _ _ _ h => h) (Gives.value (by rfl) ?yZ12) ?rZ12
        case yZ12 => (intro w' hSw; go_simp; try with_reducible rfl)
        (try simp only [Act.put, List.getElem_toArray, List.getElem_cons_zero, List.getElem_cons_succ, List.setIfInBounds_toArray, List.set_cons_zero, List.set_cons_succ])
        refine wpDet_take ?vZ13 (AwC.stays (OuC.stays q c q2 c2) (BxC.stays x)) (fun _ h => hCd _ h.1) (i := 9) rfl (by kernel_rfl) (by kernel_rfl) (by kernel_rfl) (by kernel_rfl) (fun _ _ _ h => h) (Gives.value (by rfl) ?yZ13) ?rZ13
        case yZ13 => (intro w' hSw; go_simp; try with_reducible rfl)
        (try simp only [Act.put, List.getElem_toArray, List.getElem_cons_zero, List.getElem_cons_succ, List.setIfInBounds_toArray, List.set_cons_zero, List.set_cons_succ])
        refine wpDet_take ?vZ14 (AwC.stays (OuC.stays q c q2 c2) (BxC.stays x)) (fun _ h => hCd _ h.1) (i := 11) rfl (by kernel_rfl) (by kernel_rfl) (by kernel_rfl) (by kernel_rfl) (fun _ _ _ h => h) (Gives.value (by rfl) ?yZ14) ?rZ14
        case yZ14 => (intro w' hSw; go_simp; try with_reducible rfl)
        (try simp only [Act.put, List.getElem_toArray, List.getElem_cons_zero, List.getElem_cons_succ, List.setIfInBounds_toArray, List.set_cons_zero, List.set_cons_succ])
        refine wpDet_ready (rs := [12]) (by kernel_rfl) (by simp) (AllDet.cons rfl (fun V hV K hK => ?_) AllDet.nil)
        rw [if_pos (by rfl)]
        have hAt : At 28 V x #[.int .i64 0, .slice none 0 0] := hV.2.2
        have hth : V.there x 0 2 := there2 hAt
        refine wp_store_mid 28 _ _ rfl x 0 #[.int .i64 3, .slice q2 2 c2] rfl rfl hth sizeC (one2 _ _ _ _) ?_
        refine hK.out (AwC w0 (OuC q c q2 c2) (fun W => At 28 W x #[.int .i64 3, .slice q2 2 c2])) _ _ (AwC.stays (OuC.stays q c q2 c2) (fun _ _ h hb => h.below hb)) (fun _ _ h => hCd _ h.1) ⟨Gr.putB (Bl.out0 hV.1) hxl _ _, ⟨(hV.2.1.1.set1c x 0 _ hqx).set1c x 1 _ hqx, hV.2.1.2.put _ _ (fun a ha _ => hq2x a ha)⟩, hAt.put2 _ _⟩ ?_
        clear hK K hV hth hAt
        (try simp only [Act.put, List.getElem_toArray, List.getElem_cons_zero, List.getElem_cons_succ, List.setIfInBounds_toArray, List.set_cons_zero, List.set_cons_succ])
        refine wpDet_take ?vZ15 (AwC.stays (OuC.stays q c q2 c2) (fun _ _ h hb => h.below hb)) (fun _ h => hCd _ h.1) (i := 13) rfl (by kernel_rfl) (by kernel_rfl) (by kernel_rfl) (by kernel_rfl) (fun _ _ _ h => h) (Gives.value (by rfl) ?yZ15) ?rZ15
        case yZ15 => (intro w' hSw; go_simp; try with_reducible rfl)
        (try simp only [Act.put, List.getElem_toArray, List.getElem_cons_zero, List.getElem_cons_succ, List.setIfInBounds_toArray, List.set_cons_zero, List.set_cons_succ])
        refine wpDet_done (by kernel_rfl) (fun W3 hW3 => ?_) _
        obtain ⟨hB3, ⟨hR1, hR2⟩, hX3⟩ := hW3
        have hbx := hb0.trans ((Bl.out0 hB3).mono (by have := hb0.size; omega))
        obtain ⟨x0, x1⟩ := (show At 28 W3 x #[.int .i64 3, .slice q2 2 c2] from hX3).two
        have hba := below_alloc W3 (.cells #[.int .i64 1, .int .i64 1, .int .i64 0, .int .i64 1, .int .i64 2, .int .i64 2, .int .i64 1, .int .i64 2] 37)
        have hE := equalC_any q (some ⟨W3.heap.size, 0, none⟩) 2 2 c 2 _ _ _ (hR1.below hba) (rdc_two W3 ⟨1, 1, 0, 1⟩ ⟨2, 2, 1, 2⟩) (by decide) (by decide)
        rw [eqCs_self] at hE
        clear hB3 hR1 hr0 ht0 hb0 hCd
        go_wp2_with fail
        refine hE.mono ?_
        rintro r w4 ⟨rfl, hb4⟩
        have hX4 := ((show At 28 W3 x #[.int .i64 3, .slice q2 2 c2] from hX3).below hba).below hb4
        have hR4 := (hR2.below hba).below hb4
        have hB4 := hbx.trans (hba.mono (by have := hbx.size; omega))
        have hB5 := hB4.trans (hb4.mono (by have := hB4.size; omega))
        obtain ⟨x0, x1⟩ := hX4.two
        have hbc := below_alloc w4 (.cells #[.int .i64 0, .int .i64 0, .bool false, .int .i64 2, .int .i64 1, .bool false] 45)
        have hSm := Same_any 3 3 q2 (some ⟨w4.heap.size, 0, none⟩) 2 2 c2 2 _ _ _ (hR4.below hbc) (rdm_two w4 ⟨0, 0, false⟩ ⟨2, 1, false⟩) (by decide) (by decide)
        clear hE hb4 hba hX3 hR2 hbx hB4
        go_wp2_with fail
        refine hSm.mono ?_
        rintro r w5 ⟨rfl, hb5⟩
        have hB6 := hB5.trans (hbc.mono (by have := hB5.size; omega))
        have hB7 := hB6.trans (hb5.mono (by have := hB6.size; omega))
        clear hSm
        go_wp2_with fail
        go_ret
        exact ⟨rfl, hB7⟩
    · rw [if_pos (by rfl)]
      refine wp_value (.pointer (some ⟨V.heap.size, 0, none⟩)) (V.alloc (.cells #[.int .i64 0, .slice none 0 0] 28)) (by first | (go_simp; done) | (go_simp; rfl)) ?_
      have hxl : w0.heap.size ≤ V.heap.size := (Bl.out0 hV.1).size
      refine hK.out (AwC w0 (SlC y) (BxC V.heap.size)) _ _ (AwC.stays (SlC.stays y) (BxC.stays _)) (fun _ _ h => hCd _ h.1) ⟨Bl.stays w0 V _ hV.1 (below_alloc _ _), (SlC.stays y) _ _ hV.2.1 (below_alloc _ _), At.new _ _ _⟩ ?_
      clear hK K hV
      generalize V.heap.size = x at *
      (try simp only [Act.put, List.getElem_toArray, List.getElem_cons_zero, List.getElem_cons_succ, List.setIfInBounds_toArray, List.set_cons_zero, List.set_cons_succ])
      refine wpDet_ready (rs := [2]) (by kernel_rfl) (by simp) (AllDet.cons rfl (fun V hV K hK => ?_) AllDet.nil)
      rw [if_pos (by rfl)]
      refine wp_enterE 37 #[.slice (some ⟨y, 0, none⟩) 2 2] (by first | (go_simp; done) | (go_simp; rfl)) (fun v W => v = .int .u64 5 ∧ W = V) ((of_any _ 2 2 _ V hV.2.1 (by decide)).mono fun e' w' hh => ⟨_, hh.1, rfl, hh.2⟩) ?_
      rintro v7 V7 ⟨rfl, rfl⟩
      refine hK.out (AwC w0 NoC (BxC x)) _ _ (AwC.stays NoC.stays (BxC.stays x)) (fun _ _ h => hCd _ h.1) ⟨hV.1, trivial, hV.2.2⟩ ?_
      clear hK K hV
      (try simp only [Act.put, List.getElem_toArray, List.getElem_cons_zero, List.getElem_cons_succ, List.setIfInBounds_toArray, List.set_cons_zero, List.set_cons_succ])
      refine wpDet_ready (rs := [5]) (by kernel_rfl) (by simp) (AllDet.cons rfl (fun V hV K hK => ?_) AllDet.nil)
      rw [if_pos (by rfl)]
      refine wp_enterE 17 #[.agg #[.int .i64 1, .slice (some ⟨b, 0, none⟩) 2 2], .int .u64 5, .agg #[.int .i64 0, .int .i64 1, .int .i64 1, .int .i64 0, .int .i64 0, .int .i64 0], .agg #[.int .i64 1, .int .i64 1, .int .i64 0]] (by first | (go_simp; done) | (go_simp; rfl)) _ (All_ex _ _ V (hr0.below (Bl.out0 hV.1)) (ht0.below (Bl.out0 hV.1))) ?_
      rintro v7 V7 ⟨⟨q, c, q2, c2, rfl, hR1, hR2, hq1, hq2⟩, hb7⟩
      have hqx : ∀ a, q = some a → a.block ≠ x := fun a ha => by have := hq1 a ha; have := (show At 28 V x _ from hV.2.2).lt; omega
      have hq2x : ∀ a, q2 = some a → a.block ≠ x := fun a ha => by have := hq2 a ha; have := (show At 28 V x _ from hV.2.2).lt; omega
      refine hK.out (AwC w0 (OuC q c q2 c2) (BxC x)) _ _ (AwC.stays (OuC.stays q c q2 c2) (BxC.stays x)) (fun _ _ h => hCd _ h.1) ⟨Bl.stays w0 V _ hV.1 hb7, ⟨hR1, hR2⟩, (BxC.stays x) _ _ hV.2.2 hb7⟩ ?_
      clear hK K hV hb7 hR1 hR2 hq1 hq2
      (try simp only [Act.put, List.getElem_toArray, List.getElem_cons_zero, List.getElem_cons_succ, List.setIfInBounds_toArray, List.set_cons_zero, List.set_cons_succ])
      refine wpDet_take ?vZ16 (AwC.stays (OuC.stays q c q2 c2) (BxC.stays x)) (fun _ h => hCd _ h.1) (i := 6) rfl (by kernel_rfl) (by kernel_rfl) (by kernel_rfl) (by kernel_rfl) (fun _ _ _ h => h) (Gives.value (by rfl) ?yZ16) ?rZ16
      case yZ16 => (intro w' hSw; go_simp; try with_reducible rfl)
      (try simp only [Act.put, List.getElem_toArray, List.getElem_cons_zero, List.getElem_cons_succ, List.setIfInBounds_toArray, List.set_cons_zero, List.set_cons_succ])
      refine wpDet_take ?vZ17 (AwC.stays (OuC.stays q c q2 c2) (BxC.stays x)) (fun _ h => hCd _ h.1) (i := 7) rfl (by kernel_rfl) (by kernel_rfl) (by kernel_rfl) (by kernel_rfl) (fun _ _ _ h => h) (Gives.value (by rfl) ?yZ17) ?rZ17
      case yZ17 => (intro w' hSw; go_simp; try with_reducible rfl)
      (try simp only [Act.put, List.getElem_toArray, List.getElem_cons_zero, List.getElem_cons_succ, List.setIfInBounds_toArray, List.set_cons_zero, List.set_cons_succ])
      refine wpDet_take ?vZ18 (AwC.stays (OuC.stays q c q2 c2) (BxC.stays x)) (fun _ h => hCd _ h.1) (i := 8) rfl (by kernel_rfl) (by kernel_rfl) (by kernel_rfl) (by kernel_rfl) (fun _ _ _ h => h) (Gives.value (by rfl) ?yZ18) ?rZ18
      case yZ18 => (intro w' hSw; go_simp; try with_reducible rfl)
      (try simp only [Act.put, List.getElem_toArray, List.getElem_cons_zero, List.getElem_cons_succ, List.setIfInBounds_toArray, List.set_cons_zero, List.set_cons_succ])
      refine wpDet_take ?vZ19 (AwC.stays (OuC.stays q c q2 c2) (BxC.stays x)) (fun _ h => hCd _ h.1) (i := 9) rfl (by kernel_rfl) (by kernel_rfl) (by kernel_rfl) (by kernel_rfl) (fun _ _ _ h => h) (Gives.value (by rfl) ?yZ19) ?rZ19
      case yZ19 => (intro w' hSw; go_simp; try with_reducible rfl)
      (try simp only [Act.put, List.getElem_toArray, List.getElem_cons_zero, List.getElem_cons_succ, List.setIfInBounds_toArray, List.set_cons_zero, List.set_cons_succ])
      refine wpDet_take ?vZ20 (AwC.stays (OuC.stays q c q2 c2) (BxC.stays x)) (fun _ h => hCd _ h.1) (i := 11) rfl (by kernel_rfl) (by kernel_rfl) (by kernel_rfl) (by kernel_rfl) (fun _ _ _ h => h) (Gives.value (by rfl) ?yZ20) ?rZ20
      case yZ20 => (intro w' hSw; go_simp; try with_reducible rfl)
      (try simp only [Act.put, List.getElem_toArray, List.getElem_cons_zero, List.getElem_cons_succ, List.setIfInBounds_toArray, List.set_cons_zero, List.set_cons_succ])
      refine wpDet_ready (rs := [12]) (by kernel_rfl) (by simp) (AllDet.cons rfl (fun V hV K hK => ?_) AllDet.nil)
      rw [if_pos (by rfl)]
      have hAt : At 28 V x #[.int .i64 0, .slice none 0 0] := hV.2.2
      have hth : V.there x 0 2 := there2 hAt
      refine wp_store_mid 28 _ _ rfl x 0 #[.int .i64 3, .slice q2 2 c2] rfl rfl hth sizeC (one2 _ _ _ _) ?_
      refine hK.out (AwC w0 (OuC q c q2 c2) (fun W => At 28 W x #[.int .i64 3, .slice q2 2 c2])) _ _ (AwC.stays (OuC.stays q c q2 c2) (fun _ _ h hb => h.below hb)) (fun _ _ h => hCd _ h.1) ⟨Gr.putB (Bl.out0 hV.1) hxl _ _, ⟨(hV.2.1.1.set1c x 0 _ hqx).set1c x 1 _ hqx, hV.2.1.2.put _ _ (fun a ha _ => hq2x a ha)⟩, hAt.put2 _ _⟩ ?_
      clear hK K hV hth hAt
      (try simp only [Act.put, List.getElem_toArray, List.getElem_cons_zero, List.getElem_cons_succ, List.setIfInBounds_toArray, List.set_cons_zero, List.set_cons_succ])
      refine wpDet_take ?vZ21 (AwC.stays (OuC.stays q c q2 c2) (fun _ _ h hb => h.below hb)) (fun _ h => hCd _ h.1) (i := 13) rfl (by kernel_rfl) (by kernel_rfl) (by kernel_rfl) (by kernel_rfl) (fun _ _ _ h => h) (Gives.value (by rfl) ?yZ21) ?rZ21
      case yZ21 => (intro w' hSw; go_simp; try with_reducible rfl)
      (try simp only [Act.put, List.getElem_toArray, List.getElem_cons_zero, List.getElem_cons_succ, List.setIfInBounds_toArray, List.set_cons_zero, List.set_cons_succ])
      refine wpDet_done (by kernel_rfl) (fun W3 hW3 => ?_) _
      obtain ⟨hB3, ⟨hR1, hR2⟩, hX3⟩ := hW3
      have hbx := hb0.trans ((Bl.out0 hB3).mono (by have := hb0.size; omega))
      obtain ⟨x0, x1⟩ := (show At 28 W3 x #[.int .i64 3, .slice q2 2 c2] from hX3).two
      have hba := below_alloc W3 (.cells #[.int .i64 1, .int .i64 1, .int .i64 0, .int .i64 1, .int .i64 2, .int .i64 2, .int .i64 1, .int .i64 2] 37)
      have hE := equalC_any q (some ⟨W3.heap.size, 0, none⟩) 2 2 c 2 _ _ _ (hR1.below hba) (rdc_two W3 ⟨1, 1, 0, 1⟩ ⟨2, 2, 1, 2⟩) (by decide) (by decide)
      rw [eqCs_self] at hE
      clear hB3 hR1 hr0 ht0 hb0 hCd
      go_wp2_with fail
      refine hE.mono ?_
      rintro r w4 ⟨rfl, hb4⟩
      have hX4 := ((show At 28 W3 x #[.int .i64 3, .slice q2 2 c2] from hX3).below hba).below hb4
      have hR4 := (hR2.below hba).below hb4
      have hB4 := hbx.trans (hba.mono (by have := hbx.size; omega))
      have hB5 := hB4.trans (hb4.mono (by have := hB4.size; omega))
      obtain ⟨x0, x1⟩ := hX4.two
      have hbc := below_alloc w4 (.cells #[.int .i64 0, .int .i64 0, .bool false, .int .i64 2, .int .i64 1, .bool false] 45)
      have hSm := Same_any 3 3 q2 (some ⟨w4.heap.size, 0, none⟩) 2 2 c2 2 _ _ _ (hR4.below hbc) (rdm_two w4 ⟨0, 0, false⟩ ⟨2, 1, false⟩) (by decide) (by decide)
      clear hE hb4 hba hX3 hR2 hbx hB4
      go_wp2_with fail
      refine hSm.mono ?_
      rintro r w5 ⟨rfl, hb5⟩
      have hB6 := hB5.trans (hbc.mono (by have := hB5.size; omega))
      have hB7 := hB6.trans (hb5.mono (by have := hB6.size; omega))
      clear hSm
      go_wp2_with fail
      go_ret
      exact ⟨rfl, hB7⟩
  · rw [if_pos (by rfl)]
    refine wp_value (.pointer (some ⟨V.heap.size, 0, none⟩)) (V.alloc (.cells #[.int .i64 0, .slice none 0 0] 28)) (by first | (go_simp; done) | (go_simp; rfl)) ?_
    have hxl : w0.heap.size ≤ V.heap.size := (Bl.out0 hV.1).size
    refine hK.out (AwC w0 NoC (BxC V.heap.size)) _ _ (AwC.stays NoC.stays (BxC.stays _)) (fun _ _ h => hCd _ h.1) ⟨Bl.stays w0 V _ hV.1 (below_alloc _ _), NoC.stays _ _ hV.2.1 (below_alloc _ _), At.new _ _ _⟩ ?_
    clear hK K hV
    generalize V.heap.size = x at *
    (try simp only [Act.put, List.getElem_toArray, List.getElem_cons_zero, List.getElem_cons_succ, List.setIfInBounds_toArray, List.set_cons_zero, List.set_cons_succ])
    refine wpDet_ready (rs := [1]) (by kernel_rfl) (by simp) (AllDet.cons rfl (fun V hV K hK => ?_) AllDet.nil)
    rw [if_pos (by rfl)]
    refine wp_value (.slice (some ⟨V.heap.size, 0, none⟩) 2 2) (V.alloc (.cells #[.int .i64 0, .int .i64 2] 3)) (by first | (go_simp; done) | (go_simp; rfl)) ?_
    refine hK.out (AwC w0 (SlC V.heap.size) (BxC x)) _ _ (AwC.stays (SlC.stays _) (BxC.stays x)) (fun _ _ h => hCd _ h.1) ⟨Bl.stays w0 V _ hV.1 (below_alloc _ _), Rd.two _ _ _ _ _, (BxC.stays x) _ _ hV.2.2 (below_alloc _ _)⟩ ?_
    clear hK K hV
    generalize V.heap.size = y at *
    (try simp only [Act.put, List.getElem_toArray, List.getElem_cons_zero, List.getElem_cons_succ, List.setIfInBounds_toArray, List.set_cons_zero, List.set_cons_succ])
    refine wpDet_ready (rs := [2]) (by kernel_rfl) (by simp) (AllDet.cons rfl (fun V hV K hK => ?_) AllDet.nil)
    rw [if_pos (by rfl)]
    refine wp_enterE 37 #[.slice (some ⟨y, 0, none⟩) 2 2] (by first | (go_simp; done) | (go_simp; rfl)) (fun v W => v = .int .u64 5 ∧ W = V) ((of_any _ 2 2 _ V hV.2.1 (by decide)).mono fun e' w' hh => ⟨_, hh.1, rfl, hh.2⟩) ?_
    rintro v7 V7 ⟨rfl, rfl⟩
    refine hK.out (AwC w0 NoC (BxC x)) _ _ (AwC.stays NoC.stays (BxC.stays x)) (fun _ _ h => hCd _ h.1) ⟨hV.1, trivial, hV.2.2⟩ ?_
    clear hK K hV
    (try simp only [Act.put, List.getElem_toArray, List.getElem_cons_zero, List.getElem_cons_succ, List.setIfInBounds_toArray, List.set_cons_zero, List.set_cons_succ])
    refine wpDet_ready (rs := [5]) (by kernel_rfl) (by simp) (AllDet.cons rfl (fun V hV K hK => ?_) AllDet.nil)
    rw [if_pos (by rfl)]
    refine wp_enterE 17 #[.agg #[.int .i64 1, .slice (some ⟨b, 0, none⟩) 2 2], .int .u64 5, .agg #[.int .i64 0, .int .i64 1, .int .i64 1, .int .i64 0, .int .i64 0, .int .i64 0], .agg #[.int .i64 1, .int .i64 1, .int .i64 0]] (by first | (go_simp; done) | (go_simp; rfl)) _ (All_ex _ _ V (hr0.below (Bl.out0 hV.1)) (ht0.below (Bl.out0 hV.1))) ?_
    rintro v7 V7 ⟨⟨q, c, q2, c2, rfl, hR1, hR2, hq1, hq2⟩, hb7⟩
    have hqx : ∀ a, q = some a → a.block ≠ x := fun a ha => by have := hq1 a ha; have := (show At 28 V x _ from hV.2.2).lt; omega
    have hq2x : ∀ a, q2 = some a → a.block ≠ x := fun a ha => by have := hq2 a ha; have := (show At 28 V x _ from hV.2.2).lt; omega
    refine hK.out (AwC w0 (OuC q c q2 c2) (BxC x)) _ _ (AwC.stays (OuC.stays q c q2 c2) (BxC.stays x)) (fun _ _ h => hCd _ h.1) ⟨Bl.stays w0 V _ hV.1 hb7, ⟨hR1, hR2⟩, (BxC.stays x) _ _ hV.2.2 hb7⟩ ?_
    clear hK K hV hb7 hR1 hR2 hq1 hq2
    (try simp only [Act.put, List.getElem_toArray, List.getElem_cons_zero, List.getElem_cons_succ, List.setIfInBounds_toArray, List.set_cons_zero, List.set_cons_succ])
    refine wpDet_take ?vZ22 (AwC.stays (OuC.stays q c q2 c2) (BxC.stays x)) (fun _ h => hCd _ h.1) (i := 6) rfl (by kernel_rfl) (by kernel_rfl) (by kernel_rfl) (by kernel_rfl) (fun _ _ _ h => h) (Gives.value (by rfl) ?yZ22) ?rZ22
    case yZ22 => (intro w' hSw; go_simp; try with_reducible rfl)
    (try simp only [Act.put, List.getElem_toArray, List.getElem_cons_zero, List.getElem_cons_succ, List.setIfInBounds_toArray, List.set_cons_zero, List.set_cons_succ])
    refine wpDet_take ?vZ23 (AwC.stays (OuC.stays q c q2 c2) (BxC.stays x)) (fun _ h => hCd _ h.1) (i := 7) rfl (by kernel_rfl) (by kernel_rfl) (by kernel_rfl) (by kernel_rfl) (fun _ _ _ h => h) (Gives.value (by rfl) ?yZ23) ?rZ23
    case yZ23 => (intro w' hSw; go_simp; try with_reducible rfl)
    (try simp only [Act.put, List.getElem_toArray, List.getElem_cons_zero, List.getElem_cons_succ, List.setIfInBounds_toArray, List.set_cons_zero, List.set_cons_succ])
    refine wpDet_take ?vZ24 (AwC.stays (OuC.stays q c q2 c2) (BxC.stays x)) (fun _ h => hCd _ h.1) (i := 8) rfl (by kernel_rfl) (by kernel_rfl) (by kernel_rfl) (by kernel_rfl) (fun _ _ _ h => h) (Gives.value (by rfl) ?yZ24) ?rZ24
    case yZ24 => (intro w' hSw; go_simp; try with_reducible rfl)
    (try simp only [Act.put, List.getElem_toArray, List.getElem_cons_zero, List.getElem_cons_succ, List.setIfInBounds_toArray, List.set_cons_zero, List.set_cons_succ])
    refine wpDet_take ?vZ25 (AwC.stays (OuC.stays q c q2 c2) (BxC.stays x)) (fun _ h => hCd _ h.1) (i := 9) rfl (by kernel_rfl) (by kernel_rfl) (by kernel_rfl) (by kernel_rfl) (fun _ _ _ h => h) (Gives.value (by rfl) ?yZ25) ?rZ25
    case yZ25 => (intro w' hSw; go_simp; try with_reducible rfl)
    (try simp only [Act.put, List.getElem_toArray, List.getElem_cons_zero, List.getElem_cons_succ, List.setIfInBounds_toArray, List.set_cons_zero, List.set_cons_succ])
    refine wpDet_take ?vZ26 (AwC.stays (OuC.stays q c q2 c2) (BxC.stays x)) (fun _ h => hCd _ h.1) (i := 11) rfl (by kernel_rfl) (by kernel_rfl) (by kernel_rfl) (by kernel_rfl) (fun _ _ _ h => h) (Gives.value (by rfl) ?yZ26) ?rZ26
    case yZ26 => (intro w' hSw; go_simp; try with_reducible rfl)
    (try simp only [Act.put, List.getElem_toArray, List.getElem_cons_zero, List.getElem_cons_succ, List.setIfInBounds_toArray, List.set_cons_zero, List.set_cons_succ])
    refine wpDet_ready (rs := [12]) (by kernel_rfl) (by simp) (AllDet.cons rfl (fun V hV K hK => ?_) AllDet.nil)
    rw [if_pos (by rfl)]
    have hAt : At 28 V x #[.int .i64 0, .slice none 0 0] := hV.2.2
    have hth : V.there x 0 2 := there2 hAt
    refine wp_store_mid 28 _ _ rfl x 0 #[.int .i64 3, .slice q2 2 c2] rfl rfl hth sizeC (one2 _ _ _ _) ?_
    refine hK.out (AwC w0 (OuC q c q2 c2) (fun W => At 28 W x #[.int .i64 3, .slice q2 2 c2])) _ _ (AwC.stays (OuC.stays q c q2 c2) (fun _ _ h hb => h.below hb)) (fun _ _ h => hCd _ h.1) ⟨Gr.putB (Bl.out0 hV.1) hxl _ _, ⟨(hV.2.1.1.set1c x 0 _ hqx).set1c x 1 _ hqx, hV.2.1.2.put _ _ (fun a ha _ => hq2x a ha)⟩, hAt.put2 _ _⟩ ?_
    clear hK K hV hth hAt
    (try simp only [Act.put, List.getElem_toArray, List.getElem_cons_zero, List.getElem_cons_succ, List.setIfInBounds_toArray, List.set_cons_zero, List.set_cons_succ])
    refine wpDet_take ?vZ27 (AwC.stays (OuC.stays q c q2 c2) (fun _ _ h hb => h.below hb)) (fun _ h => hCd _ h.1) (i := 13) rfl (by kernel_rfl) (by kernel_rfl) (by kernel_rfl) (by kernel_rfl) (fun _ _ _ h => h) (Gives.value (by rfl) ?yZ27) ?rZ27
    case yZ27 => (intro w' hSw; go_simp; try with_reducible rfl)
    (try simp only [Act.put, List.getElem_toArray, List.getElem_cons_zero, List.getElem_cons_succ, List.setIfInBounds_toArray, List.set_cons_zero, List.set_cons_succ])
    refine wpDet_done (by kernel_rfl) (fun W3 hW3 => ?_) _
    obtain ⟨hB3, ⟨hR1, hR2⟩, hX3⟩ := hW3
    have hbx := hb0.trans ((Bl.out0 hB3).mono (by have := hb0.size; omega))
    obtain ⟨x0, x1⟩ := (show At 28 W3 x #[.int .i64 3, .slice q2 2 c2] from hX3).two
    have hba := below_alloc W3 (.cells #[.int .i64 1, .int .i64 1, .int .i64 0, .int .i64 1, .int .i64 2, .int .i64 2, .int .i64 1, .int .i64 2] 37)
    have hE := equalC_any q (some ⟨W3.heap.size, 0, none⟩) 2 2 c 2 _ _ _ (hR1.below hba) (rdc_two W3 ⟨1, 1, 0, 1⟩ ⟨2, 2, 1, 2⟩) (by decide) (by decide)
    rw [eqCs_self] at hE
    clear hB3 hR1 hr0 ht0 hb0 hCd
    go_wp2_with fail
    refine hE.mono ?_
    rintro r w4 ⟨rfl, hb4⟩
    have hX4 := ((show At 28 W3 x #[.int .i64 3, .slice q2 2 c2] from hX3).below hba).below hb4
    have hR4 := (hR2.below hba).below hb4
    have hB4 := hbx.trans (hba.mono (by have := hbx.size; omega))
    have hB5 := hB4.trans (hb4.mono (by have := hB4.size; omega))
    obtain ⟨x0, x1⟩ := hX4.two
    have hbc := below_alloc w4 (.cells #[.int .i64 0, .int .i64 0, .bool false, .int .i64 2, .int .i64 1, .bool false] 45)
    have hSm := Same_any 3 3 q2 (some ⟨w4.heap.size, 0, none⟩) 2 2 c2 2 _ _ _ (hR4.below hbc) (rdm_two w4 ⟨0, 0, false⟩ ⟨2, 1, false⟩) (by decide) (by decide)
    clear hE hb4 hba hX3 hR2 hbx hB4
    go_wp2_with fail
    refine hSm.mono ?_
    rintro r w5 ⟨rfl, hb5⟩
    have hB6 := hB5.trans (hbc.mono (by have := hB5.size; omega))
    have hB7 := hB6.trans (hb5.mono (by have := hB6.size; omega))
    clear hSm
    go_wp2_with fail
    go_ret
    exact ⟨rfl, hB7⟩

end Go.Proofs.YtigojnpjpagfjaaDoor.M
