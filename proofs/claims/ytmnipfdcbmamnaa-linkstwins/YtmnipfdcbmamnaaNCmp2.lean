/-
  Own text: contracts of cmp.Compare, of cmp.Or of two, of the order of links.
-/
import Derived.Test.YtmnipfdcbmamnaaNDrop
import Derived.Test.YtmnipfdcbmamnaaNDet3
namespace Go.Proofs.Ytmnipfdcbmamnaa.M
open Go.ChangeShapes Go.WideShapes Go.ChangeAt Go.RowKit

set_option maxRecDepth 20000 in
theorem isNaN_any (x : Int) (w : World) : Calls Try.prog 55 #[.int .i64 x] w fun e w' => e = .returned (.bool false) ∧ w' = w := by
  go_enter Try.func55, Try.ntmps55
  go_wp2
  go_ret
  exact ⟨rfl, rfl⟩

/-- What a comparison tells. -/
def cmpI (x y : Int) : Int := if x < y then -1 else if y < x then 1 else 0

set_option maxRecDepth 20000 in
theorem compare_any (x y : Int) (w : World) : Calls Try.prog 44 #[.int .i64 x, .int .i64 y] w fun e w' => e = .returned (.int .i64 (cmpI x y)) ∧ w' = w := by
  have hx := fun W => isNaN_any x W
  have hy := fun W => isNaN_any y W
  have HC : Hid (cmpI x y = if x < y then -1 else if y < x then 1 else 0) := rfl
  generalize cmpI x y = z at *
  go_enter Try.func44, Try.ntmps44
  go_wp2_with fail
  refine (hx _).mono ?_
  rintro r w1 ⟨rfl, rfl⟩
  go_wp2_with fail
  refine (hy _).mono ?_
  rintro r w2 ⟨rfl, rfl⟩
  by_cases h1 : x < y
  · have HN : Hid (z = -1) := by unfold Hid; rw [HC.out, if_pos h1]
    clear HC
    go_wp2_with fail
    go_ret
    exact ⟨ret_int HN.out.symm, rfl⟩
  · by_cases h2 : y < x
    · have HN : Hid (z = 1) := by unfold Hid; rw [HC.out, if_neg h1, if_pos h2]
      clear HC
      go_wp2_with fail
      go_ret
      exact ⟨ret_int HN.out.symm, rfl⟩
    · have HN : Hid (z = 0) := by unfold Hid; rw [HC.out, if_neg h1, if_neg h2]
      clear HC
      go_wp2_with fail
      go_ret
      exact ⟨ret_int HN.out.symm, rfl⟩

/-- The order of links. -/
def cmpL (x y x' y' : Int) : Int := if cmpI x x' ≠ 0 then cmpI x x' else cmpI y y'

set_option maxRecDepth 20000 in
set_option maxHeartbeats 2000000 in
theorem or_two (w : World) (b : Nat) (u v : Int) (h0 : w.cell? ⟨b, 0, none⟩ = some (.int .i64 u)) (h1 : w.cell? ⟨b, 1, none⟩ = some (.int .i64 v)) :
    Calls Try.prog 43 #[.slice (some ⟨b, 0, none⟩) 2 2] w fun e w' => e = .returned (.int .i64 (if u ≠ 0 then u else v)) ∧ w' = w := by
  go_enter Try.func43, Try.ntmps43
  go_wp2_with fail
  go_loop [8] (fun i => ∃ k : Nat, k ≤ 2 ∧ i = .int .i64 k ∧ (0 < k → u = 0) ∧ (1 < k → v = 0)) (fun i => 2 - (intOf i).toNat)
  case atStart => exact ⟨0, Nat.zero_le _, rfl, (fun h => absurd h (Nat.lt_irrefl _)), (fun h => absurd h (by omega))⟩
  case round =>
    obtain ⟨k, hk, rfl, hu, hv⟩ := hrel
    by_cases k0 : k = 0
    · subst k0
      by_cases hu0 : u = 0
      · have e : (u != 0) = false := by simp [hu0]
        clear hu hv
        go_wp2_with fail
        go_round
        case rel => exact ⟨1, by omega, by go_num, fun _ => hu0, (fun h => absurd h (by omega))⟩
        case measure => simp [intOf]
      · have e : (u != 0) = true := by simp [hu0]
        clear hu hv
        go_wp2_with fail
        go_ret
        exact ⟨rfl, rfl⟩
    · by_cases k1 : k = 1
      · subst k1
        have hu0 := hu (by omega)
        by_cases hv0 : v = 0
        · have e : (v != 0) = false := by simp [hv0]
          clear hu hv
          go_wp2_with fail
          go_round
          case rel => exact ⟨2, by omega, by go_num, fun _ => hu0, fun _ => hv0⟩
          case measure => simp [intOf]
        · have e : (v != 0) = true := by simp [hv0]
          clear hu hv
          go_wp2_with fail
          go_ret
          exact ⟨rfl, rfl⟩
      · obtain rfl : k = 2 := by omega
        have hu0 := hu (by omega)
        have hv0 := hv (by omega)
        clear hu hv
        go_wp2_with fail
        go_ret
        exact ⟨rfl, rfl⟩

set_option linter.unusedSimpArgs false in
set_option maxRecDepth 20000 in
set_option maxHeartbeats 4000000 in
/-- Busy's comparison. -/
theorem busyCmp_any (x y x' y' : Int) (w : World) :
    Calls Try.prog 42 #[.agg #[.int .i64 x, .int .i64 y], .agg #[.int .i64 x', .int .i64 y']] w fun e w' => e = .returned (.int .i64 (cmpL x y x' y')) ∧ Later w w' := by
  have hba := below_alloc w (.cells #[.int .i64 x, .int .i64 y] 33)
  have hbb := below_alloc (w.alloc (.cells #[.int .i64 x, .int .i64 y] 33)) (.cells #[.int .i64 x', .int .i64 y'] 33)
  have h1 := (At.new 33 w #[.int .i64 x, .int .i64 y]).below hbb
  have h2 := At.moved (g2 := w.heap.size + 1) (by simp) (At.new 33 (w.alloc (.cells #[.int .i64 x, .int .i64 y] 33)) #[.int .i64 x', .int .i64 y'])
  have hL0 : Later w ((w.alloc (.cells #[.int .i64 x, .int .i64 y] 33)).alloc (.cells #[.int .i64 x', .int .i64 y'] 33)) := (Later.alloc w _).trans (Later.alloc _ _)
  clear hba hbb
  go_enter Try.func42, Try.ntmps42
  go_wp2_with fail
  generalize ((w.alloc (.cells #[.int .i64 x, .int .i64 y] 33)).alloc (.cells #[.int .i64 x', .int .i64 y'] 33)) = W0 at *
  obtain ⟨b1, hb1⟩ : ∃ b1, b1 = w.heap.size := ⟨_, rfl⟩
  obtain ⟨b2, hb2⟩ : ∃ b2, b2 = w.heap.size + 1 := ⟨_, rfl⟩
  rw [← hb1] at h1
  rw [← hb2] at h2
  rw [← hb2, ← hb1]
  clear hb1 hb2
  have hS0 : Later W0 W0.drew := Later.drew W0
  refine wp_region_det3 [0, 1, 2, 3, 4, 5, 6, 7, 8, 9] (fun W => At 33 W b1 #[.int .i64 x, .int .i64 y] ∧ At 33 W b2 #[.int .i64 x', .int .i64 y']) (Later W0) (by kernel_rfl) hS0 ?_
  refine wpDet_take3 ?vC0 (fun _ _ h hb => Later.trans h hb) (fun W h => ⟨h1.below (Later.below h), h2.below (Later.below h)⟩) (i := 0) rfl (by kernel_rfl) (by kernel_rfl) (by kernel_rfl) (by kernel_rfl) (fun _ _ _ h => h) (Gives3.value (by rfl) ?yC0) ?rC0
  case yC0 => (intro w' hSw; (try dsimp only at hSw); go_simp; try with_reducible rfl)
  (try simp only [Act.put, List.getElem_toArray, List.getElem_cons_zero, List.getElem_cons_succ, List.setIfInBounds_toArray, List.set_cons_zero, List.set_cons_succ])
  refine wpDet_take3 ?vC1 (fun _ _ h hb => Later.trans h hb) (fun W h => ⟨h1.below (Later.below h), h2.below (Later.below h)⟩) (i := 1) rfl (by kernel_rfl) (by kernel_rfl) (by kernel_rfl) (by kernel_rfl) (fun _ _ _ h => h) (Gives3.value (by rfl) ?yC1) ?rC1
  case yC1 => (intro w' hSw; have hz := hSw.1.cell 0; (try dsimp only at hSw); go_simp; try with_reducible rfl)
  (try simp only [Act.put, List.getElem_toArray, List.getElem_cons_zero, List.getElem_cons_succ, List.setIfInBounds_toArray, List.set_cons_zero, List.set_cons_succ])
  refine wpDet_take3 ?vC2 (fun _ _ h hb => Later.trans h hb) (fun W h => ⟨h1.below (Later.below h), h2.below (Later.below h)⟩) (i := 2) rfl (by kernel_rfl) (by kernel_rfl) (by kernel_rfl) (by kernel_rfl) (fun _ _ _ h => h) (Gives3.value (by rfl) ?yC2) ?rC2
  case yC2 => (intro w' hSw; (try dsimp only at hSw); go_simp; try with_reducible rfl)
  (try simp only [Act.put, List.getElem_toArray, List.getElem_cons_zero, List.getElem_cons_succ, List.setIfInBounds_toArray, List.set_cons_zero, List.set_cons_succ])
  refine wpDet_take3 ?vC3 (fun _ _ h hb => Later.trans h hb) (fun W h => ⟨h1.below (Later.below h), h2.below (Later.below h)⟩) (i := 3) rfl (by kernel_rfl) (by kernel_rfl) (by kernel_rfl) (by kernel_rfl) (fun _ _ _ h => h) (Gives3.value (by rfl) ?yC3) ?rC3
  case yC3 => (intro w' hSw; have hz := hSw.2.cell 0; (try dsimp only at hSw); go_simp; try with_reducible rfl)
  (try simp only [Act.put, List.getElem_toArray, List.getElem_cons_zero, List.getElem_cons_succ, List.setIfInBounds_toArray, List.set_cons_zero, List.set_cons_succ])
  refine wpDet_take3 (.int .i64 (cmpI x x')) (fun _ _ h hb => Later.trans h hb) (fun W h => ⟨h1.below (Later.below h), h2.below (Later.below h)⟩) (i := 4) rfl (by kernel_rfl) (by kernel_rfl) (by kernel_rfl) (by kernel_rfl) (fun _ _ _ h => h) (Gives3.call 44 #[.int .i64 x, .int .i64 x'] (by rfl) (fun _ => by first | (go_simp; done) | (go_simp; rfl)) (fun W hW => (compare_any x x' W).mono fun e w' h => ⟨h.1, by rw [h.2]; exact Later.refl _⟩)) ?_
  (try simp only [Act.put, List.getElem_toArray, List.getElem_cons_zero, List.getElem_cons_succ, List.setIfInBounds_toArray, List.set_cons_zero, List.set_cons_succ])
  refine wpDet_take3 ?vC5 (fun _ _ h hb => Later.trans h hb) (fun W h => ⟨h1.below (Later.below h), h2.below (Later.below h)⟩) (i := 5) rfl (by kernel_rfl) (by kernel_rfl) (by kernel_rfl) (by kernel_rfl) (fun _ _ _ h => h) (Gives3.value (by rfl) ?yC5) ?rC5
  case yC5 => (intro w' hSw; (try dsimp only at hSw); go_simp; try with_reducible rfl)
  (try simp only [Act.put, List.getElem_toArray, List.getElem_cons_zero, List.getElem_cons_succ, List.setIfInBounds_toArray, List.set_cons_zero, List.set_cons_succ])
  refine wpDet_take3 ?vC6 (fun _ _ h hb => Later.trans h hb) (fun W h => ⟨h1.below (Later.below h), h2.below (Later.below h)⟩) (i := 6) rfl (by kernel_rfl) (by kernel_rfl) (by kernel_rfl) (by kernel_rfl) (fun _ _ _ h => h) (Gives3.value (by rfl) ?yC6) ?rC6
  case yC6 => (intro w' hSw; have hz := hSw.1.cell 1; (try dsimp only at hSw); go_simp; try with_reducible rfl)
  (try simp only [Act.put, List.getElem_toArray, List.getElem_cons_zero, List.getElem_cons_succ, List.setIfInBounds_toArray, List.set_cons_zero, List.set_cons_succ])
  refine wpDet_take3 ?vC7 (fun _ _ h hb => Later.trans h hb) (fun W h => ⟨h1.below (Later.below h), h2.below (Later.below h)⟩) (i := 7) rfl (by kernel_rfl) (by kernel_rfl) (by kernel_rfl) (by kernel_rfl) (fun _ _ _ h => h) (Gives3.value (by rfl) ?yC7) ?rC7
  case yC7 => (intro w' hSw; (try dsimp only at hSw); go_simp; try with_reducible rfl)
  (try simp only [Act.put, List.getElem_toArray, List.getElem_cons_zero, List.getElem_cons_succ, List.setIfInBounds_toArray, List.set_cons_zero, List.set_cons_succ])
  refine wpDet_take3 ?vC8 (fun _ _ h hb => Later.trans h hb) (fun W h => ⟨h1.below (Later.below h), h2.below (Later.below h)⟩) (i := 8) rfl (by kernel_rfl) (by kernel_rfl) (by kernel_rfl) (by kernel_rfl) (fun _ _ _ h => h) (Gives3.value (by rfl) ?yC8) ?rC8
  case yC8 => (intro w' hSw; have hz := hSw.2.cell 1; (try dsimp only at hSw); go_simp; try with_reducible rfl)
  (try simp only [Act.put, List.getElem_toArray, List.getElem_cons_zero, List.getElem_cons_succ, List.setIfInBounds_toArray, List.set_cons_zero, List.set_cons_succ])
  refine wpDet_take3 (.int .i64 (cmpI y y')) (fun _ _ h hb => Later.trans h hb) (fun W h => ⟨h1.below (Later.below h), h2.below (Later.below h)⟩) (i := 9) rfl (by kernel_rfl) (by kernel_rfl) (by kernel_rfl) (by kernel_rfl) (fun _ _ _ h => h) (Gives3.call 44 #[.int .i64 y, .int .i64 y'] (by rfl) (fun _ => by first | (go_simp; done) | (go_simp; rfl)) (fun W hW => (compare_any y y' W).mono fun e w' h => ⟨h.1, by rw [h.2]; exact Later.refl _⟩)) ?_
  (try simp only [Act.put, List.getElem_toArray, List.getElem_cons_zero, List.getElem_cons_succ, List.setIfInBounds_toArray, List.set_cons_zero, List.set_cons_succ])
  refine wpDet_ready3 (rs := [10]) (by kernel_rfl) (by simp) (AllDet3.cons rfl (fun V hV K hK => ?_) AllDet3.nil)
  rw [if_pos (by rfl)]
  refine wp_value (.slice (some ⟨V.heap.size, 0, none⟩) 2 2) (V.alloc (.cells #[.int .i64 (cmpI x x'), .int .i64 (cmpI y y')] 3)) (by first | (go_simp; done) | (go_simp; rfl)) ?_
  have hba' : Later V (V.alloc (.cells #[.int .i64 (cmpI x x'), .int .i64 (cmpI y y')] 3)) := Later.alloc V _
  have hAs := At.new 3 V #[.int .i64 (cmpI x x'), .int .i64 (cmpI y y')]
  have hbl : Later W0 (V.alloc (.cells #[.int .i64 (cmpI x x'), .int .i64 (cmpI y y')] 3)) := Later.trans hV hba'
  clear hba'
  generalize V.heap.size = gs at *
  refine hK.out (fun W => Later W0 W ∧ At 3 W gs #[.int .i64 (cmpI x x'), .int .i64 (cmpI y y')]) _ _ (fun W W' h hb => ⟨Later.trans h.1 hb, h.2.below hb.below⟩) (fun _ W h => ⟨h1.below h.1.below, h2.below h.1.below⟩) ⟨hbl, hAs⟩ ?_
  clear hK K hV hbl hAs
  (try simp only [Act.put, List.getElem_toArray, List.getElem_cons_zero, List.getElem_cons_succ, List.setIfInBounds_toArray, List.set_cons_zero, List.set_cons_succ])
  refine wpDet_ready3 (rs := [11]) (by kernel_rfl) (by simp) (AllDet3.cons rfl (fun V hV K hK => ?_) AllDet3.nil)
  rw [if_pos (by rfl)]
  refine wp_enterN 43 #[.slice (some ⟨gs, 0, none⟩) 2 2] (by first | (go_simp; done) | (go_simp; rfl)) (fun v W => v = .int .i64 (cmpL x y x' y') ∧ W = V) ((or_two V gs (cmpI x x') (cmpI y y') (hV.2.cell 0) (hV.2.cell 1)).mono fun e' w' hh => ⟨_, hh.1, rfl, hh.2⟩) ?_
  rintro v V7 ⟨rfl, hw7⟩
  subst hw7
  refine hK.out (Later W0) _ _ (fun _ _ h hb => Later.trans h hb) (fun _ W h => ⟨h1.below (Later.below h), h2.below (Later.below h)⟩) hV.1 ?_
  clear hK K hV
  (try simp only [Act.put, List.getElem_toArray, List.getElem_cons_zero, List.getElem_cons_succ, List.setIfInBounds_toArray, List.set_cons_zero, List.set_cons_succ])
  refine wpDet_ready3 (rs := [12]) (by kernel_rfl) (by simp) (AllDet3.cons rfl (fun V hV K hK => ?_) AllDet3.nil)
  rw [if_pos (by rfl)]
  refine wp_value (.int .i64 (cmpL x y x' y')) V (by first | (go_simp; done) | (go_simp; rfl)) ?_
  refine hK.out (Later W0) _ _ (fun _ _ h hb => Later.trans h hb) (fun _ W h => ⟨h1.below (Later.below h), h2.below (Later.below h)⟩) hV ?_
  clear hK K hV
  (try simp only [Act.put, List.getElem_toArray, List.getElem_cons_zero, List.getElem_cons_succ, List.setIfInBounds_toArray, List.set_cons_zero, List.set_cons_succ])
  refine wpDet_done3 (by kernel_rfl) (fun W1 hW1 => ?_) _
  have hz := hL0.trans hW1
  go_wp2_with fail
  go_ret
  exact ⟨rfl, hz⟩

end Go.Proofs.Ytmnipfdcbmamnaa.M
