/-
  Own text: the contract of the reference's stirring.
-/
import Derived.Test.YtlmmidlegdmjpaaGStir
namespace Go.Proofs.Ytlmmidlegdmjpaa.M
open Go.ChangeShapes Go.WideShapes Go.ChangeAt Go.RowKit


set_option maxRecDepth 20000 in
set_option maxHeartbeats 4000000 in
theorem stir_any (s : Nat × Nat × Nat × Nat) (w : World) (hs : Qd s) :
    Calls Try.prog 14 #[.agg (qA s)] w fun r w' => r = .returned (.agg (qA (stirN 12 s))) ∧ Below w.heap.size w w' := by
  have h0 : ArrI 35 .u32 ((w.alloc (.cells (qA s) 35)).alloc (.cells #[.int .u32 0, .int .u32 0, .int .u32 0, .int .u32 0] 35)) w.heap.size (qI s) := (ArrI.new 35 .u32 w (qI s)).alloc _
  obtain ⟨hZ, hb, hsz⟩ := two_new w (qI s) 35 0
  rw [← qA_nums] at hZ hb hsz
  have e0 : ∀ W : World, W.drewN 0 = W := fun W => rfl
  rw [e0] at hZ hb hsz
  rw [qA] at hZ hb hsz h0
  unfold qA
  go_enter Try.func14, Try.ntmps14
  go_wp2_with fail
  go_loopw [3] (fun i wr => ∃ k : Nat, k ≤ 12 ∧ i = .int .i64 k ∧ ArrI 35 .u32 wr w.heap.size (qI (stirN k s)) ∧ ArrI 35 .u32 wr (w.heap.size + 1) [0, 0, 0, 0] ∧ Below w.heap.size w wr) (fun i _ => 12 - (intOf i).toNat)
  case atStart => exact ⟨0, by omega, rfl, h0, hZ, hb⟩
  case round =>
    clear h0 hZ hb hsz
    obtain ⟨k, hk, rfl, hA, hZ, hb⟩ := hrel
    have hq := stirN_lt hs k
    by_cases h : k < 12
    · obtain ⟨a1, c1, t5, b1, t8, d1, t16, a2, c2, t7, b2, t13, d2, c3, hst, hr⟩ := st_of (stirN k s) hq
      have HS : Hid (stirN (k + 1) s = (a2, b2, c3, d2)) := hr
      clear hr hq
      unfold qI at hA
      generalize (stirN k s).1 = a at hst hA
      generalize (stirN k s).2.1 = b at hst hA
      generalize (stirN k s).2.2.1 = c at hst hA
      generalize (stirN k s).2.2.2 = d at hst hA
      obtain ⟨hb', hd, ha1, hb1, hd1, hc2, ea1, ec1, et5, eb1, et8, ed1, et16, ea2, ec2, et7, eb2, et13, ed2, ec3⟩ := hst
      have r5 := fun W => turn_any b 5 W hb' (by decide)
      have r8 := fun W => turn_any d 8 W hd (by decide)
      have r16 := fun W => turn_any a1 16 W ha1 (by decide)
      have r7 := fun W => turn_any b1 7 W hb1 (by decide)
      have r13 := fun W => turn_any d1 13 W hd1 (by decide)
      have r16' := fun W => turn_any c2 16 W hc2 (by decide)
      rw [et5] at r5
      rw [et8] at r8
      rw [et16] at r16
      rw [et7] at r7
      rw [et13] at r13
      rw [ec3] at r16'
      clear et5 et8 et16 et7 et13 ec3
      obtain ⟨q0, q1, q2, q3, f0, f1, f2, f3⟩ := cells4 hA
      go_wp2_with fail
      apply wp_meet
      · go_region_with (go_at_call 23; refine (r5 _).mono ?_; rintro e w1 ⟨rfl, rfl⟩)
        all_goals exact Meet.mk
      have hA2 := (arr4_1 (arr4_2 (arr4_0 hA a1) c1) b1).drew
      have hZ2 := (((hZ.other w.heap.size 0 (.int .u32 (a1 : Int)) (by omega)).other w.heap.size 2 (.int .u32 (c1 : Int)) (by omega)).other w.heap.size 1 (.int .u32 (b1 : Int)) (by omega)).drew
      have hb2 := (((hb.setCell (p := ⟨w.heap.size, 0, none⟩) (Nat.le_refl _) (.int .u32 (a1 : Int))).setCell (p := ⟨w.heap.size, 2, none⟩) (Nat.le_refl _) (.int .u32 (c1 : Int))).setCell (p := ⟨w.heap.size, 1, none⟩) (Nat.le_refl _) (.int .u32 (b1 : Int))).drew
      clear hA hZ hb q0 q1 q2 q3 f0 f1 f2 f3
      generalize (((wr.setCell ⟨w.heap.size, 0, none⟩ (.int .u32 (a1 : Int))).setCell ⟨w.heap.size, 2, none⟩ (.int .u32 (c1 : Int))).setCell ⟨w.heap.size, 1, none⟩ (.int .u32 (b1 : Int))).drew = W1 at hA2 hZ2 hb2 ⊢
      have hA := hA2
      have hZ := hZ2
      have hb := hb2
      clear hA2 hZ2 hb2
      obtain ⟨q0, q1, q2, q3, f0, f1, f2, f3⟩ := cells4 hA
      go_wp2_with fail
      apply wp_meet
      · go_region_with (go_at_call 23; refine (r8 _).mono ?_; rintro e w1 ⟨rfl, rfl⟩)
        all_goals exact Meet.mk
      have hA2 := (arr4_3 hA d1).drew
      have hZ2 := (hZ.other w.heap.size 3 (.int .u32 (d1 : Int)) (by omega)).drew
      have hb2 := (hb.setCell (p := ⟨w.heap.size, 3, none⟩) (Nat.le_refl _) (.int .u32 (d1 : Int))).drew
      clear hA hZ hb q0 q1 q2 q3 f0 f1 f2 f3
      generalize (W1.setCell ⟨w.heap.size, 3, none⟩ (.int .u32 (d1 : Int))).drew = W2 at hA2 hZ2 hb2 ⊢
      have hA := hA2
      have hZ := hZ2
      have hb := hb2
      clear hA2 hZ2 hb2
      obtain ⟨q0, q1, q2, q3, f0, f1, f2, f3⟩ := cells4 hA
      go_wp2_with fail
      apply wp_meet
      · go_region_with (go_at_call 23; refine (r16 _).mono ?_; rintro e w1 ⟨rfl, rfl⟩)
        all_goals exact Meet.mk
      have hA2 := (arr4_0 hA a2).drew
      have hZ2 := (hZ.other w.heap.size 0 (.int .u32 (a2 : Int)) (by omega)).drew
      have hb2 := (hb.setCell (p := ⟨w.heap.size, 0, none⟩) (Nat.le_refl _) (.int .u32 (a2 : Int))).drew
      clear hA hZ hb q0 q1 q2 q3 f0 f1 f2 f3
      generalize (W2.setCell ⟨w.heap.size, 0, none⟩ (.int .u32 (a2 : Int))).drew = W3 at hA2 hZ2 hb2 ⊢
      have hA := hA2
      have hZ := hZ2
      have hb := hb2
      clear hA2 hZ2 hb2
      obtain ⟨q0, q1, q2, q3, f0, f1, f2, f3⟩ := cells4 hA
      go_wp2_with fail
      apply wp_meet
      · go_region_with (go_at_call 23; refine (r7 _).mono ?_; rintro e w1 ⟨rfl, rfl⟩)
        all_goals exact Meet.mk
      have hA2 := (arr4_1 (arr4_2 hA c2) b2).drew
      have hZ2 := ((hZ.other w.heap.size 2 (.int .u32 (c2 : Int)) (by omega)).other w.heap.size 1 (.int .u32 (b2 : Int)) (by omega)).drew
      have hb2 := ((hb.setCell (p := ⟨w.heap.size, 2, none⟩) (Nat.le_refl _) (.int .u32 (c2 : Int))).setCell (p := ⟨w.heap.size, 1, none⟩) (Nat.le_refl _) (.int .u32 (b2 : Int))).drew
      clear hA hZ hb q0 q1 q2 q3 f0 f1 f2 f3
      generalize ((W3.setCell ⟨w.heap.size, 2, none⟩ (.int .u32 (c2 : Int))).setCell ⟨w.heap.size, 1, none⟩ (.int .u32 (b2 : Int))).drew = W4 at hA2 hZ2 hb2 ⊢
      have hA := hA2
      have hZ := hZ2
      have hb := hb2
      clear hA2 hZ2 hb2
      obtain ⟨q0, q1, q2, q3, f0, f1, f2, f3⟩ := cells4 hA
      go_wp2_with fail
      apply wp_meet
      · go_region_with (go_at_call 23; refine (r13 _).mono ?_; rintro e w1 ⟨rfl, rfl⟩)
        all_goals exact Meet.mk
      have hA2 := (arr4_3 hA d2).drew
      have hZ2 := (hZ.other w.heap.size 3 (.int .u32 (d2 : Int)) (by omega)).drew
      have hb2 := (hb.setCell (p := ⟨w.heap.size, 3, none⟩) (Nat.le_refl _) (.int .u32 (d2 : Int))).drew
      clear hA hZ hb q0 q1 q2 q3 f0 f1 f2 f3
      generalize (W4.setCell ⟨w.heap.size, 3, none⟩ (.int .u32 (d2 : Int))).drew = W5 at hA2 hZ2 hb2 ⊢
      have hA := hA2
      have hZ := hZ2
      have hb := hb2
      clear hA2 hZ2 hb2
      obtain ⟨q0, q1, q2, q3, f0, f1, f2, f3⟩ := cells4 hA
      go_wp2_with fail
      refine (r16' _).mono ?_
      rintro e w1 ⟨rfl, rfl⟩
      go_wp2_with fail
      have hA2 := (arr4_2 hA c3)
      have hZ2 := (hZ.other w.heap.size 2 (.int .u32 (c3 : Int)) (by omega))
      have hb2 := (hb.setCell (p := ⟨w.heap.size, 2, none⟩) (Nat.le_refl _) (.int .u32 (c3 : Int)))
      clear hA hZ hb q0 q1 q2 q3 f0 f1 f2 f3
      generalize (w1.setCell ⟨w.heap.size, 2, none⟩ (.int .u32 (c3 : Int))) = W6 at hA2 hZ2 hb2 ⊢
      have hA := hA2
      have hZ := hZ2
      have hb := hb2
      clear hA2 hZ2 hb2
      go_roundw
      case rel => exact ⟨k + 1, by omega, by go_num, by rw [HS.out]; exact hA, hZ, hb⟩
      case measure => simp [intOf]; omega
    · obtain rfl : k = 12 := by omega
      have hi := info_nums .u32 (qI (stirN 12 s)) infoQ rfl
      have hz : (nums .u32 [0, 0, 0, 0]).size = (nums .u32 (qI (stirN 12 s))).size := rfl
      have hZ2 := hZ.setRow (qI (stirN 12 s))
      have hb2 := hb.trans (below_setRow wr (w.heap.size + 1) (nums .u32 (qI (stirN 12 s))) (by omega))
      go_wp2_with (first | refine wpList_load_row rfl 35 _ rfl w.heap.size rfl _ _ _ _ hA Try.underlying35 rfl hi ?_ | refine wpList_store_row rfl 35 _ _ rfl (w.heap.size + 1) (nums .u32 (qI (stirN 12 s))) rfl rfl _ _ hZ hi hz (nums_one _ _) ?_)
      exact bodyPost_ret (results_cell_row (p := 2) rfl _ _ (w.heap.size + 1) _ _ _ _ rfl hZ2 Try.underlying35 rfl hi) rfl ⟨rfl, hb2⟩

end Go.Proofs.Ytlmmidlegdmjpaa.M
