/-
  Own text: contracts of the reference's words.
-/
import Derived.Test.YtlmmidlegdmjpaaGAwake
import Derived.Test.YtlmmidlegdmjpaaGSame
namespace Go.Proofs.Ytlmmidlegdmjpaa.M
open Go.ChangeShapes Go.WideShapes Go.ChangeAt Go.RowKit

theorem wdL_drop (l : List Int) (i : Nat) : wdL (l.drop i) 0 = wdL l i := by
  unfold wdL
  simp only [List.getD_eq_getElem?_getD, List.getElem?_drop, Nat.add_zero, Nat.zero_add]

set_option maxRecDepth 20000 in
set_option maxHeartbeats 1000000 in
theorem word_any (b o n c : Nat) (l : List Int) (w : World) (hr : Rd .u8 w (some ⟨b, o, none⟩) n c l) (hby : Byt l) (hn : 4 ≤ n) :
    Calls Try.prog 26 #[.slice (some ⟨b, o, none⟩) n c] w fun r w' => r = .returned (.int .u32 (wdL l 0)) ∧ Below w.heap.size w w' := by
  obtain ⟨b', o', e, hc⟩ := hr.cells (by omega)
  cases e
  have c0 := hc 0 (by omega)
  have c1 := hc 1 (by omega)
  have c2 := hc 2 (by omega)
  have c3 := hc 3 (by omega)
  rw [Nat.add_zero] at c0
  have y0 := hby.get 0
  have y1 := hby.get 1
  have y2 := hby.get 2
  have y3 := hby.get 3
  have HW : Hid (wdL l 0 = (l.getD 0 0).toNat + 256 * (l.getD 1 0).toNat + 65536 * (l.getD 2 0).toNat + 16777216 * (l.getD 3 0).toNat) := rfl
  generalize wdL l 0 = z at HW ⊢
  generalize l.getD 0 0 = x0 at *
  generalize l.getD 1 0 = x1 at *
  generalize l.getD 2 0 = x2 at *
  generalize l.getD 3 0 = x3 at *
  obtain ⟨x0, rfl⟩ := Int.eq_ofNat_of_zero_le y0.1
  obtain ⟨x1, rfl⟩ := Int.eq_ofNat_of_zero_le y1.1
  obtain ⟨x2, rfl⟩ := Int.eq_ofNat_of_zero_le y2.1
  obtain ⟨x3, rfl⟩ := Int.eq_ofNat_of_zero_le y3.1
  have z0 : (0 : Int) < (n : Int) := by omega
  have z1 : (1 : Int) < (n : Int) := by omega
  have z2 : (2 : Int) < (n : Int) := by omega
  have z3 : (3 : Int) < (n : Int) := by omega
  clear hc hr hby
  go_enter Try.func26, Try.ntmps26
  go_wp2_with fail
  go_quiet (fail)
  go_wp2_with fail
  go_ret
  have hb := below_drewN (Below.refl w.heap.size w) nq
  refine ⟨ret_int ?_, hb⟩
  have h1 := HW.out
  rw [h1]
  simp only [Int.toNat_natCast]
  omega

/-- As Hold, and one array more, of whatever so many numbers. -/
def HoldE (w : World) (l : List (TypeId × IntKind × Nat × List Int)) (t : TypeId) (k : IntKind) (g n : Nat) (W : World) : Prop := ∃ z : List Int, z.length = n ∧ Hold w ((t, k, g, z) :: l) W

theorem HoldE.mk {w : World} {l : List (TypeId × IntKind × Nat × List Int)} {t : TypeId} {k : IntKind} {g n : Nat} {W : World} {z : List Int} (hz : z.length = n) (h : Hold w ((t, k, g, z) :: l) W) : HoldE w l t k g n W := ⟨z, hz, h⟩

theorem HoldE.drew {w : World} {l : List (TypeId × IntKind × Nat × List Int)} {t : TypeId} {k : IntKind} {g n : Nat} {W : World} (h : HoldE w l t k g n W) : HoldE w l t k g n W.drew := by
  obtain ⟨z, hz, h⟩ := h
  exact ⟨z, hz, h.drew⟩

theorem HoldE.at {w : World} {l : List (TypeId × IntKind × Nat × List Int)} {t : TypeId} {k : IntKind} {g n : Nat} {W : World} (h : HoldE w l t k g n W) (i : Nat) {t' : TypeId} {k' : IntKind} {g' : Nat} {xs : List Int} (hi : l[i]? = some (t', k', g', xs)) : ArrI t' k' W g' xs := by
  obtain ⟨z, _, h⟩ := h
  exact h.at (i + 1) hi

theorem HoldE.bel {w : World} {l : List (TypeId × IntKind × Nat × List Int)} {t : TypeId} {k : IntKind} {g n : Nat} {W : World} (h : HoldE w l t k g n W) : Below w.heap.size w W := by
  obtain ⟨z, _, h⟩ := h
  exact h.2

theorem holdE_call {w : World} {l : List (TypeId × IntKind × Nat × List Int)} {t : TypeId} {k : IntKind} {g n : Nat} {P : Program} {f : FuncId} {args : Array Value} {v : Value} {W : World} (hS : HoldE w l t k g n W) (c : Calls P f args W fun e w' => e = .returned v ∧ Below W.heap.size W w') : Calls P f args W fun e w' => e = .returned v ∧ HoldE w l t k g n w' := by
  obtain ⟨z, hz, h⟩ := hS
  exact c.mono (by rintro e w' ⟨rfl, hb⟩; exact ⟨rfl, z, hz, h.below hb⟩)

set_option maxRecDepth 20000 in
set_option linter.unusedSimpArgs false in
set_option maxHeartbeats 2000000 in
theorem four_any (b o n c : Nat) (l : List Int) (w : World) (hr : Rd .u8 w (some ⟨b, o, none⟩) n c l) (hby : Byt l) (hn : 16 ≤ n) :
    Calls Try.prog 21 #[.slice (some ⟨b, o, none⟩) n c] w fun r w' => r = .returned (.agg (qA (qW l))) ∧ Below w.heap.size w w' := by
  have hA0 : ArrI 35 .u32 (w.alloc (.cells #[.int .u32 0, .int .u32 0, .int .u32 0, .int .u32 0] 35)) w.heap.size [0, 0, 0, 0] := ArrI.new 35 .u32 w [0, 0, 0, 0]
  have hS : HoldE w [] 35 .u32 w.heap.size 4 _ := HoldE.mk rfl (Hold.cons hA0 (Hold.nil (below_alloc _ _)))
  have c0 := fun W (hS : HoldE w [] 35 .u32 w.heap.size 4 W) => holdE_call hS (word_any b o n c l W (hr.below hS.bel) hby (by omega))
  have c4 := fun W (hS : HoldE w [] 35 .u32 w.heap.size 4 W) => holdE_call hS (word_any b (o + 4) (n - 4) (c - 4) (l.drop 4) W ((hr.below hS.bel).cut 4 (by omega)) (hby.drop 4) (by omega))
  have c8 := fun W (hS : HoldE w [] 35 .u32 w.heap.size 4 W) => holdE_call hS (word_any b (o + 8) (n - 8) (c - 8) (l.drop 8) W ((hr.below hS.bel).cut 8 (by omega)) (hby.drop 8) (by omega))
  have c12 := fun W (hS : HoldE w [] 35 .u32 w.heap.size 4 W) => holdE_call hS (word_any b (o + 12) (n - 12) (c - 12) (l.drop 12) W ((hr.below hS.bel).cut 12 (by omega)) (hby.drop 12) (by omega))
  rw [wdL_drop] at c4 c8 c12
  have hcap := hr.cap
  have m4 : ¬ c = 4 := by omega
  have m8 : ¬ c = 8 := by omega
  have m12 : ¬ c = 12 := by omega
  have n4 : 4 ≤ n := by omega
  have n8 : 8 ≤ n := by omega
  have n12 : 12 ≤ n := by omega
  have k4 : (4 : Int) ≤ (n : Int) := by omega
  have k8 : (8 : Int) ≤ (n : Int) := by omega
  have k12 : (12 : Int) ≤ (n : Int) := by omega
  have hi := info_nums .u32 (qI (qW l)) infoQ rfl
  clear hr hA0 hby
  go_enter Try.func21, Try.ntmps21
  go_wp2_with fail
  generalize w.alloc (.cells #[.int .u32 0, .int .u32 0, .int .u32 0, .int .u32 0] 35) = W0 at hS ⊢
  refine wp_region_held_drew (S := (HoldE w [] 35 .u32 w.heap.size 4)) (by kernel_rfl) hS.drew (fun hHeld => ?_)
  clear hHeld
  have hS0 := hS.drew
  refine wpAnyH_take (i := 0) (v := ?yv0) rfl (by kernel_rfl) (by kernel_rfl) (by kernel_rfl) (fun _ _ _ h => h) (Or.inl ⟨by rfl, ?yy0⟩) hS0 ?yr0
  case yy0 => (intro w hSw; (try dsimp only at hSw); go_simp; try with_reducible rfl)
  (try simp only [Act.put, List.getElem_toArray, List.getElem_cons_zero, List.getElem_cons_succ, List.setIfInBounds_toArray, List.set_cons_zero, List.set_cons_succ])
  refine wpAnyH_take (i := 2) (v := ?yv2) rfl (by kernel_rfl) (by kernel_rfl) (by kernel_rfl) (fun _ _ _ h => h) (Or.inl ⟨by rfl, ?yy2⟩) hS0 ?yr2
  case yy2 => (intro w hSw; (try dsimp only at hSw); go_simp; try with_reducible rfl)
  (try simp only [Act.put, List.getElem_toArray, List.getElem_cons_zero, List.getElem_cons_succ, List.setIfInBounds_toArray, List.set_cons_zero, List.set_cons_succ])
  refine wpAnyH_take (i := 3) (v := ?yv3) rfl (by kernel_rfl) (by kernel_rfl) (by kernel_rfl) (fun _ _ _ h => h) (Or.inl ⟨by rfl, ?yy3⟩) hS0 ?yr3
  case yy3 => (intro w hSw; (try dsimp only at hSw); go_simp; try with_reducible rfl)
  (try simp only [Act.put, List.getElem_toArray, List.getElem_cons_zero, List.getElem_cons_succ, List.setIfInBounds_toArray, List.set_cons_zero, List.set_cons_succ])
  refine wpAnyH_take (i := 5) (v := ?yv5) rfl (by kernel_rfl) (by kernel_rfl) (by kernel_rfl) (fun _ _ _ h => h) (Or.inl ⟨by rfl, ?yy5⟩) hS0 ?yr5
  case yy5 => (intro w hSw; (try dsimp only at hSw); go_simp; try with_reducible rfl)
  (try simp only [Act.put, List.getElem_toArray, List.getElem_cons_zero, List.getElem_cons_succ, List.setIfInBounds_toArray, List.set_cons_zero, List.set_cons_succ])
  refine wpAnyH_take (i := 6) (v := ?yv6) rfl (by kernel_rfl) (by kernel_rfl) (by kernel_rfl) (fun _ _ _ h => h) (Or.inl ⟨by rfl, ?yy6⟩) hS0 ?yr6
  case yy6 => (intro w hSw; (try dsimp only at hSw); go_simp; try with_reducible rfl)
  (try simp only [Act.put, List.getElem_toArray, List.getElem_cons_zero, List.getElem_cons_succ, List.setIfInBounds_toArray, List.set_cons_zero, List.set_cons_succ])
  refine wpAnyH_take (i := 8) (v := ?yv8) rfl (by kernel_rfl) (by kernel_rfl) (by kernel_rfl) (fun _ _ _ h => h) (Or.inl ⟨by rfl, ?yy8⟩) hS0 ?yr8
  case yy8 => (intro w hSw; (try dsimp only at hSw); go_simp; try with_reducible rfl)
  (try simp only [Act.put, List.getElem_toArray, List.getElem_cons_zero, List.getElem_cons_succ, List.setIfInBounds_toArray, List.set_cons_zero, List.set_cons_succ])
  refine wpAnyH_take (i := 9) (v := ?yv9) rfl (by kernel_rfl) (by kernel_rfl) (by kernel_rfl) (fun _ _ _ h => h) (Or.inl ⟨by rfl, ?yy9⟩) hS0 ?yr9
  case yy9 => (intro w hSw; (try dsimp only at hSw); go_simp; try with_reducible rfl)
  (try simp only [Act.put, List.getElem_toArray, List.getElem_cons_zero, List.getElem_cons_succ, List.setIfInBounds_toArray, List.set_cons_zero, List.set_cons_succ])
  refine wpAnyH_ready (rs := [1]) (by kernel_rfl) (by simp) (AllReadyH.cons rfl (fun K hK => ?_) AllReadyH.nil)
  go_simp
  refine (c0 _ hS0).mono ?_
  rintro e w1 ⟨rfl, hS1⟩
  go_wp2_with fail
  refine hK.out _ _ hS1 (fun hHeld => ?_)
  clear hK K hHeld
  (try simp only [Act.put, List.getElem_toArray, List.getElem_cons_zero, List.getElem_cons_succ, List.setIfInBounds_toArray, List.set_cons_zero, List.set_cons_succ])
  refine wpAnyH_ready (rs := [4]) (by kernel_rfl) (by simp) (AllReadyH.cons rfl (fun K hK => ?_) AllReadyH.nil)
  go_simp
  refine (c4 _ hS1).mono ?_
  rintro e w2 ⟨rfl, hS2⟩
  go_wp2_with fail
  refine hK.out _ _ hS2 (fun hHeld => ?_)
  clear hK K hHeld
  (try simp only [Act.put, List.getElem_toArray, List.getElem_cons_zero, List.getElem_cons_succ, List.setIfInBounds_toArray, List.set_cons_zero, List.set_cons_succ])
  refine wpAnyH_ready (rs := [7]) (by kernel_rfl) (by simp) (AllReadyH.cons rfl (fun K hK => ?_) AllReadyH.nil)
  go_simp
  refine (c8 _ hS2).mono ?_
  rintro e w3 ⟨rfl, hS3⟩
  go_wp2_with fail
  refine hK.out _ _ hS3 (fun hHeld => ?_)
  clear hK K hHeld
  (try simp only [Act.put, List.getElem_toArray, List.getElem_cons_zero, List.getElem_cons_succ, List.setIfInBounds_toArray, List.set_cons_zero, List.set_cons_succ])
  refine wpAnyH_ready (rs := [10]) (by kernel_rfl) (by simp) (AllReadyH.cons rfl (fun K hK => ?_) AllReadyH.nil)
  go_simp
  refine (c12 _ hS3).mono ?_
  rintro e w4 ⟨rfl, hS4⟩
  go_wp2_with fail
  refine hK.out _ _ hS4 (fun hHeld => ?_)
  clear hK K hHeld
  (try simp only [Act.put, List.getElem_toArray, List.getElem_cons_zero, List.getElem_cons_succ, List.setIfInBounds_toArray, List.set_cons_zero, List.set_cons_succ])
  refine wpAnyH_take (i := 11) (v := ?yv11) rfl (by kernel_rfl) (by kernel_rfl) (by kernel_rfl) (fun _ _ _ h => h) (Or.inl ⟨by rfl, ?yy11⟩) hS4 ?yr11
  case yy11 => (intro w hSw; (try dsimp only at hSw); go_simp; try with_reducible rfl)
  (try simp only [Act.put, List.getElem_toArray, List.getElem_cons_zero, List.getElem_cons_succ, List.setIfInBounds_toArray, List.set_cons_zero, List.set_cons_succ])
  obtain ⟨z, hz, hH⟩ := hS4
  have hZ5 := (hH.at 0 rfl).setRow (qI (qW l))
  have hb5 := hH.2.trans (below_setRow w4 w.heap.size (nums .u32 (qI (qW l))) (Nat.le_refl _))
  refine wpAnyH_ready (rs := [12]) (by kernel_rfl) (by simp) (AllReadyH.cons rfl (fun K hK => ?_) AllReadyH.nil)
  rw [if_pos (by rfl)]
  refine wp_store_row 35 _ _ rfl w.heap.size (nums .u32 (qI (qW l))) rfl rfl _ _ (hH.at 0 rfl) hi (by rw [nums_size, nums_size, hz]; rfl) (nums_one _ _) ?_
  generalize w4.setRow w.heap.size (nums .u32 (qI (qW l))) = w5 at hZ5 hb5 ⊢
  refine hK.out _ _ (HoldE.mk rfl (Hold.cons hZ5 (Hold.nil hb5))) (fun hHeld => ?_)
  clear hK K hHeld
  (try simp only [Act.put, List.getElem_toArray, List.getElem_cons_zero, List.getElem_cons_succ, List.setIfInBounds_toArray, List.set_cons_zero, List.set_cons_succ])
  refine wpAnyH_done (by kernel_rfl) ?_ _
  go_wp2_with fail
  exact bodyPost_ret (results_cell_row (p := 2) rfl _ _ w.heap.size _ _ _ _ rfl hZ5 Try.underlying35 rfl hi) rfl ⟨rfl, hb5⟩

end Go.Proofs.Ytlmmidlegdmjpaa.M
