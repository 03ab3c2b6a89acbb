/-
  Own text: the example of the statements over chains.
-/
import Derived.Test.YtnhdfojbffaifaaYSame2
namespace Go.Proofs.Ytnhdfojbffaifaa.M
open Go.ChangeShapes Go.WideShapes Go.ChangeAt Go.RowKit

theorem ex_first : firstR [⟨2, 1, false⟩, ⟨0, 0, false⟩] = .ok (1, [⟨0, 0, false⟩, ⟨2, 1, false⟩]) := by kernel_rfl
theorem ex_join : joinR 1 [⟨0, 0, false⟩, ⟨2, 1, false⟩] ⟨1, 0, false⟩ = .ok (2, [⟨0, 0, false⟩, ⟨1, 0, true⟩, ⟨2, 1, false⟩]) := by kernel_rfl
theorem ex_drop : cutR (fun m => m.n == 0) 2 [⟨0, 0, false⟩, ⟨1, 0, true⟩, ⟨2, 1, false⟩] = .ok (3, [⟨2, 1, false⟩]) := by kernel_rfl
theorem ex_head : endM 1 [⟨0, 0, false⟩, ⟨2, 1, false⟩] 0 = 0 := by decide +kernel
theorem ex_next : offM 2 [⟨0, 0, false⟩, ⟨1, 0, true⟩, ⟨2, 1, false⟩] 0 1 = 1 := by decide +kernel
theorem ex_tail : endM 2 [⟨0, 0, false⟩, ⟨1, 0, true⟩, ⟨2, 1, false⟩] (((3 : Nat) : Int) - 1) = 2 := by decide +kernel

theorem rdm_two (w : World) (x y : Mb) : RdM (w.alloc (.cells #[.int .i64 x.n, .int .i64 x.s, .bool x.f, .int .i64 y.n, .int .i64 y.s, .bool y.f] 42)) (some ⟨w.heap.size, 0, none⟩) 2 2 [x, y] := by
  refine ⟨rfl, Nat.le_refl _, (fun e => by cases e), fun _ => ⟨_, 0, rfl, fun i hi => ?_⟩⟩
  match i, hi with
  | 0, _ => exact ⟨by simp, by simp, by simp⟩
  | 1, _ => exact ⟨by simp, by simp, by simp⟩

theorem rdm_one (w : World) (x : Mb) : RdM (w.alloc (.cells #[.int .i64 x.n, .int .i64 x.s, .bool x.f] 42)) (some ⟨w.heap.size, 0, none⟩) 1 1 [x] := by
  refine ⟨rfl, Nat.le_refl _, (fun e => by cases e), fun _ => ⟨_, 0, rfl, fun i hi => ?_⟩⟩
  match i, hi with
  | 0, _ => exact ⟨by simp, by simp, by simp⟩

set_option maxRecDepth 20000 in
set_option maxHeartbeats 2000000 in
theorem awake_any (w : World) : Calls Try.prog 9 #[] w fun e w' => e = .returned (.bool true) ∧ Below w.heap.size w w' := by
  have hb0 : Below w.heap.size w (w.alloc (.cells #[.int .i64 2, .int .i64 1, .bool false, .int .i64 0, .int .i64 0, .bool false] 42)) := (Below.refl _ _).alloc (Nat.le_refl _) _
  have hF := First_few _ 2 2 _ _ (rdm_two w ⟨2, 1, false⟩ ⟨0, 0, false⟩) (by decide) (by decide)
  rw [ex_first] at hF
  go_enter Try.func9, Try.ntmps9
  go_wp2_with fail
  refine hF.mono ?_
  rintro r w1 ⟨v1, rfl, ⟨q1, c1, rfl, _, hr1⟩, hb1⟩
  have hB1 := hb0.trans (hb1.mono hb0.size)
  clear hF hb0 hb1
  have hb2 : Below w1.heap.size w1 (w1.alloc (.cells #[.int .i64 1, .slice q1 2 c1] 24)) := (Below.refl _ _).alloc (Nat.le_refl _) _
  have hJ := Join_any 1 q1 2 c1 _ ⟨1, 0, false⟩ _ (hr1.below hb2) (by decide)
  rw [ex_join] at hJ
  have k0 : (w1.alloc (.cells #[.int .i64 1, .slice q1 2 c1] 24)).cell? ⟨w1.heap.size, 0, none⟩ = some (.int .i64 1) := by simp
  have k1 : (w1.alloc (.cells #[.int .i64 1, .slice q1 2 c1] 24)).cell? ⟨w1.heap.size, 1, none⟩ = some (.slice q1 2 c1) := by simp
  generalize hb1 : w1.heap.size = b1 at *
  go_wp2_with fail
  generalize (w1.alloc (.cells #[.int .i64 1, .slice q1 2 c1] 24)) = w2 at *
  refine hJ.mono ?_
  rintro r w3 ⟨v3, rfl, ⟨q3, c3, rfl, _, hr3⟩, hb3⟩
  have hr1' := hr1.below (by rw [hb1]; exact hb2)
  have hw1 : b1 ≤ w2.heap.size := by rw [← hb1]; exact hb2.size
  have hB3 := (hB1.trans (hb2.mono (by rw [← hb1]; exact hB1.size))).trans (hb3.mono (Nat.le_trans hB1.size (by rw [hb1]; exact hw1)))
  have hr1b := hr1'.below hb3
  replace k0 := (hb3.cell (p := ⟨b1, 0, none⟩) (World.block_lt_of_cell? _ _ k0)).trans k0
  replace k1 := (hb3.cell (p := ⟨b1, 1, none⟩) (World.block_lt_of_cell? _ _ k1)).trans k1
  clear hJ hr1 hr1' hb2 hb3 hw1 hB1
  have hb4 : Below w3.heap.size w3 (w3.alloc (.cells #[.int .i64 2, .slice q3 3 c3] 24)) := (Below.refl _ _).alloc (Nat.le_refl _) _
  have hr3b := hr3.below hb4
  have hr1c := hr1b.below hb4
  have hD := Drop_any 2 q3 3 c3 _ 0 _ hr3b (by decide)
  rw [ex_drop] at hD
  replace k0 := (hb4.cell (p := ⟨b1, 0, none⟩) (World.block_lt_of_cell? _ _ k0)).trans k0
  replace k1 := (hb4.cell (p := ⟨b1, 1, none⟩) (World.block_lt_of_cell? _ _ k1)).trans k1
  have k2 : (w3.alloc (.cells #[.int .i64 2, .slice q3 3 c3] 24)).cell? ⟨w3.heap.size, 0, none⟩ = some (.int .i64 2) := by simp
  have k3 : (w3.alloc (.cells #[.int .i64 2, .slice q3 3 c3] 24)).cell? ⟨w3.heap.size, 1, none⟩ = some (.slice q3 3 c3) := by simp
  have hB4 := hB3.trans (hb4.mono hB3.size)
  clear hr3 hr1b hb4 hB3
  generalize hb3 : w3.heap.size = b3 at *
  go_wp2_with fail
  generalize (w3.alloc (.cells #[.int .i64 2, .slice q3 3 c3] 24)) = w4 at *
  refine hD.mono ?_
  rintro r w5 ⟨v5, rfl, ⟨q5, c5, rfl, _, hr5⟩, hb5⟩
  have hr3c := hr3b.below hb5
  have hr1d := hr1c.below hb5
  have hB5 := hB4.trans (hb5.mono hB4.size)
  replace k0 := (hb5.cell (p := ⟨b1, 0, none⟩) (World.block_lt_of_cell? _ _ k0)).trans k0
  replace k1 := (hb5.cell (p := ⟨b1, 1, none⟩) (World.block_lt_of_cell? _ _ k1)).trans k1
  replace k2 := (hb5.cell (p := ⟨b3, 0, none⟩) (World.block_lt_of_cell? _ _ k2)).trans k2
  replace k3 := (hb5.cell (p := ⟨b3, 1, none⟩) (World.block_lt_of_cell? _ _ k3)).trans k3
  clear hD hr3b hr1c hb5 hB4
  have hb6 : Below w5.heap.size w5 (w5.alloc (.cells #[.int .i64 3, .slice q5 1 c5] 24)) := (Below.refl _ _).alloc (Nat.le_refl _) _
  have hr3 := hr3c.below hb6
  have hr1 := hr1d.below hb6
  have hr5b := hr5.below hb6
  replace k0 := (hb6.cell (p := ⟨b1, 0, none⟩) (World.block_lt_of_cell? _ _ k0)).trans k0
  replace k1 := (hb6.cell (p := ⟨b1, 1, none⟩) (World.block_lt_of_cell? _ _ k1)).trans k1
  replace k2 := (hb6.cell (p := ⟨b3, 0, none⟩) (World.block_lt_of_cell? _ _ k2)).trans k2
  replace k3 := (hb6.cell (p := ⟨b3, 1, none⟩) (World.block_lt_of_cell? _ _ k3)).trans k3
  have k4 : (w5.alloc (.cells #[.int .i64 3, .slice q5 1 c5] 24)).cell? ⟨w5.heap.size, 0, none⟩ = some (.int .i64 3) := by simp
  have k5 : (w5.alloc (.cells #[.int .i64 3, .slice q5 1 c5] 24)).cell? ⟨w5.heap.size, 1, none⟩ = some (.slice q5 1 c5) := by simp
  have hB6 := hB5.trans (hb6.mono hB5.size)
  clear hr3c hr1d hr5 hb6 hB5
  generalize hb5 : w5.heap.size = b5 at *
  have hH := Head_any 1 q1 2 c1 _ _ hr1 (by decide)
  rw [ex_head] at hH
  go_wp2_with fail
  generalize (w5.alloc (.cells #[.int .i64 3, .slice q5 1 c5] 24)) = w6 at *
  refine hH.mono ?_
  rintro r w7 ⟨rfl, hb7⟩
  have hr3' := hr3.below hb7
  have hr5' := hr5b.below hb7
  replace k2 := (hb7.cell (p := ⟨b3, 0, none⟩) (World.block_lt_of_cell? _ _ k2)).trans k2
  replace k3 := (hb7.cell (p := ⟨b3, 1, none⟩) (World.block_lt_of_cell? _ _ k3)).trans k3
  replace k4 := (hb7.cell (p := ⟨b5, 0, none⟩) (World.block_lt_of_cell? _ _ k4)).trans k4
  replace k5 := (hb7.cell (p := ⟨b5, 1, none⟩) (World.block_lt_of_cell? _ _ k5)).trans k5
  have hB7 := hB6.trans (hb7.mono hB6.size)
  clear hH hr1 hr3 hr5b hb7 hB6 k0 k1
  have hN := Next_any 2 q3 3 c3 _ 0 _ hr3' (by decide)
  rw [ex_next] at hN
  go_wp2_with fail
  refine hN.mono ?_
  rintro r w8 ⟨rfl, hb8⟩
  have hr3 := hr3'.below hb8
  have hr5 := hr5'.below hb8
  replace k2 := (hb8.cell (p := ⟨b3, 0, none⟩) (World.block_lt_of_cell? _ _ k2)).trans k2
  replace k3 := (hb8.cell (p := ⟨b3, 1, none⟩) (World.block_lt_of_cell? _ _ k3)).trans k3
  replace k4 := (hb8.cell (p := ⟨b5, 0, none⟩) (World.block_lt_of_cell? _ _ k4)).trans k4
  replace k5 := (hb8.cell (p := ⟨b5, 1, none⟩) (World.block_lt_of_cell? _ _ k5)).trans k5
  have hB8 := hB7.trans (hb8.mono hB7.size)
  clear hN hr3' hr5' hb8 hB7
  have hT := Tail_any 2 q3 3 c3 _ _ hr3 (by decide)
  have e3 : ([⟨0, 0, false⟩, ⟨1, 0, true⟩, ⟨2, 1, false⟩] : List Mb).length = 3 := rfl
  rw [ex_tail] at hT
  go_wp2_with fail
  refine hT.mono ?_
  rintro r w9 ⟨rfl, hb9⟩
  have hr5' := hr5.below hb9
  replace k4 := (hb9.cell (p := ⟨b5, 0, none⟩) (World.block_lt_of_cell? _ _ k4)).trans k4
  replace k5 := (hb9.cell (p := ⟨b5, 1, none⟩) (World.block_lt_of_cell? _ _ k5)).trans k5
  have hB9 := hB8.trans (hb9.mono hB8.size)
  clear hT hr3 hr5 hb9 hB8 k2 k3
  have hb10 : Below w9.heap.size w9 (w9.alloc (.cells #[.int .i64 2, .int .i64 1, .bool false] 42)) := (Below.refl _ _).alloc (Nat.le_refl _) _
  have hS := Same_any 3 3 q5 (some ⟨w9.heap.size, 0, none⟩) 1 1 c5 1 _ _ _ (hr5'.below hb10) (rdm_one w9 ⟨2, 1, false⟩) (by decide) (by decide)
  have hB10 := hB9.trans (hb10.mono hB9.size)
  go_wp2_with fail
  refine hS.mono ?_
  rintro r w11 ⟨rfl, hb11⟩
  go_wp2_with fail
  go_ret
  exact ⟨rfl, hB10.trans (hb11.mono hB10.size)⟩

end Go.Proofs.Ytnhdfojbffaifaa.M
