/-
  Own text: the walk of the law MaskRanks.
-/
import Derived.Test.YtbbcondoenmapacDoorKRank
import Derived.Test.YtbbcondoenmapacDoorOpen
import Derived.Deep.RegionHeld3
namespace Go.Proofs.YtbbcondoenmapacDoor.M
open Go.ChangeShapes Go.WideShapes Go.ChangeAt Go.RowKit

/-- The cells of an array of yes and no. -/
theorem Arr.range {w : World} {g : Nat} {bs : List Bool} (h : Arr w g bs) : w.rangeAt g 0 (bs.map Value.bool) := by
  intro j v hj
  have := cell_of_row w g j _ _ _ h
  rw [Nat.zero_add, this, bools, List.getElem?_toArray]
  exact hj

theorem range_below {w w' : World} {g o : Nat} {cs : List Value} (h : w.rangeAt g o cs) (hb : Below w.heap.size w w') : w'.rangeAt g o cs := by
  intro j v hj
  have h1 := h j v hj
  rw [hb.cell (p := ⟨g, o + j, none⟩) (World.block_lt_of_cell? _ _ h1)]
  exact h1

set_option maxRecDepth 20000 in
set_option linter.unusedSimpArgs false in
theorem ranks_core (x r : Nat) (n a : Int) (bs : List Bool) (w : World) (hT : Tab w)
    (c1 : ∀ W, Calls Tryd.prog 15 #[.int .u64 x] W fun e w' => e = .returned (.agg (bools bs)) ∧ Below W.heap.size W w')
    (c2 : ∀ W, Calls Tryd.prog 22 #[.int .u64 x, .int .i64 n] W fun e w' => e = .returned (.int .i64 r) ∧ w' = W)
    (c3 : ∀ W, Calls Tryd.prog 23 #[.agg (bools bs), .int .i64 n] W fun e w' => e = .returned (.int .i64 r) ∧ Below W.heap.size W w')
    (c4 : ∀ W, Tab W → Calls Tryd.prog 24 #[.int .u64 x, .int .i64 n] W fun e w' => e = .returned (.int .i64 a) ∧ w' = W)
    (c5 : ∀ W, Calls Tryd.prog 25 #[.agg (bools bs), .int .i64 n] W fun e w' => e = .returned (.int .i64 a) ∧ Below W.heap.size W w') (hl : bs.length = 64) :
    Calls Tryd.prog 5 #[.int .u64 x, .int .i64 n] w fun e w' => e = .returned (.bool true) ∧ Below w.heap.size w w' := by
  have hi := info_set bs hl
  go_enter Tryd.func5, Tryd.ntmps5
  go_wp2_with fail
  refine (c1 _).mono ?_
  rintro e w1 ⟨rfl, hb1⟩
  have hZ : Arr (w1.alloc (.cells (bools (List.replicate 64 false)) 25)) w1.heap.size (List.replicate 64 false) := heap_alloc_new _ _
  have hZ2 := hZ.setRow bs
  have hb2 : Below w.heap.size w ((w1.alloc (.cells (bools (List.replicate 64 false)) 25)).setRow w1.heap.size (bools bs)) := (hb1.alloc hb1.size _).trans (below_setRow _ _ _ hb1.size)
  clear hb1
  go_wp2_with (refine wpList_store_row rfl 25 _ _ rfl w1.heap.size _ rfl rfl _ _ hZ hi (by rw [bools_size, bools_size, hl]; rfl) (bools_one _) ?_; generalize hW3 : World.setRow _ _ _ = W3; have hA3 : Arr W3 w1.heap.size bs := (by rw [← hW3]; exact hZ2); have hb3 : Below w.heap.size w W3 := (by rw [← hW3]; exact hb2); clear hW3 hZ hZ2 hb2)
  have hR := hA3.range
  have hu := Tryd.underlying25
  have hcl : (bs.map Value.bool).length = 64 := by rw [List.length_map]; exact hl
  have hi2 : (Tryd.prog.info? 25).map (·.size) = some (bs.map Value.bool).length := by rw [hi, bools_size, List.length_map]
  have hone : ∀ v ∈ bs.map Value.bool, v.oneCell' = true := by
    intro v hv
    obtain ⟨b, _, rfl⟩ := List.mem_map.1 hv
    rfl
  have d2 : ∀ W, (W.rangeAt w1.heap.size 0 (bs.map Value.bool) ∧ Below w.heap.size w W) → Calls Tryd.prog 22 #[.int .u64 x, .int .i64 n] W fun e w' => e = .returned (.int .i64 r) ∧ (w'.rangeAt w1.heap.size 0 (bs.map Value.bool) ∧ Below w.heap.size w w') := fun W hS => (c2 W).mono (by rintro e w' ⟨rfl, rfl⟩; exact ⟨rfl, hS⟩)
  have d3 : ∀ W, (W.rangeAt w1.heap.size 0 (bs.map Value.bool) ∧ Below w.heap.size w W) → Calls Tryd.prog 23 #[.agg (bs.map Value.bool).toArray, .int .i64 n] W fun e w' => e = .returned (.int .i64 r) ∧ (w'.rangeAt w1.heap.size 0 (bs.map Value.bool) ∧ Below w.heap.size w w') := fun W hS => (c3 W).mono (by rintro e w' ⟨rfl, hb⟩; exact ⟨rfl, range_below hS.1 hb, hS.2.trans (hb.mono hS.2.size)⟩)
  have d4 : ∀ W, (W.rangeAt w1.heap.size 0 (bs.map Value.bool) ∧ Below w.heap.size w W) → Calls Tryd.prog 24 #[.int .u64 x, .int .i64 n] W fun e w' => e = .returned (.int .i64 a) ∧ (w'.rangeAt w1.heap.size 0 (bs.map Value.bool) ∧ Below w.heap.size w w') := fun W hS => (c4 W (hT.below hS.2)).mono (by rintro e w' ⟨rfl, rfl⟩; exact ⟨rfl, hS⟩)
  have d5 : ∀ W, (W.rangeAt w1.heap.size 0 (bs.map Value.bool) ∧ Below w.heap.size w W) → Calls Tryd.prog 25 #[.agg (bs.map Value.bool).toArray, .int .i64 n] W fun e w' => e = .returned (.int .i64 a) ∧ (w'.rangeAt w1.heap.size 0 (bs.map Value.bool) ∧ Below w.heap.size w w') := fun W hS => (c5 W).mono (by rintro e w' ⟨rfl, hb⟩; exact ⟨rfl, range_below hS.1 hb, hS.2.trans (hb.mono hS.2.size)⟩)
  have d6 : ∀ W, (W.rangeAt w1.heap.size 0 (bs.map Value.bool) ∧ Below w.heap.size w W) → Calls Tryd.prog 7 #[] W fun e w' => e = .returned (.bool true) ∧ (w'.rangeAt w1.heap.size 0 (bs.map Value.bool) ∧ Below w.heap.size w w') := fun W hS => (awake_any W (hT.below hS.2)).mono (by rintro e w' ⟨rfl, hb⟩; exact ⟨rfl, range_below hS.1 hb, hS.2.trans (hb.mono hS.2.size)⟩)
  clear c1 c2 c3 c4 c5 hA3 hT hi
  generalize bs.map Value.bool = cs at hR hcl hi2 hone d2 d3 d4 d5 d6
  generalize w1.heap.size = g at hR d2 d3 d4 d5 d6 ⊢
  refine wp_region_held_drew (S := fun w' => w'.rangeAt g 0 cs ∧ Below w.heap.size w w') (by kernel_rfl) ⟨(World.rangeAt_drew _ _ _ _).2 hR, hb3.drew⟩ (fun hHeld => ?_)
  refine wpAnyH_take (i := 3) (v := _) rfl (by kernel_rfl) (by kernel_rfl) (by kernel_rfl) (fun _ _ _ h => h) (yieldsIf_load_mid (by rfl) _ _ rfl _ _ rfl _ _ (fun _ h => h.1) hu rfl hi2) (by assumption) ?_
  (try simp only [Act.put, List.getElem_toArray, List.getElem_cons_zero, List.getElem_cons_succ, List.setIfInBounds_toArray, List.set_cons_zero, List.set_cons_succ])
  refine wpAnyH_take (i := 0) (v := ?yv0) rfl (by kernel_rfl) (by kernel_rfl) (by kernel_rfl) (fun _ _ _ h => h) (Or.inl ⟨by rfl, ?yy0⟩) (by assumption) ?yr0
  case yy0 => (intro w hSw; (try dsimp only at hSw); go_simp; try with_reducible rfl)
  (try simp only [Act.put, List.getElem_toArray, List.getElem_cons_zero, List.getElem_cons_succ, List.setIfInBounds_toArray, List.set_cons_zero, List.set_cons_succ])
  refine wpAnyH_take (i := 1) (v := ?yv1) rfl (by kernel_rfl) (by kernel_rfl) (by kernel_rfl) (fun _ _ _ h => h) (Or.inl ⟨by rfl, ?yy1⟩) (by assumption) ?yr1
  case yy1 => (intro w hSw; (try dsimp only at hSw); go_simp; try with_reducible rfl)
  (try simp only [Act.put, List.getElem_toArray, List.getElem_cons_zero, List.getElem_cons_succ, List.setIfInBounds_toArray, List.set_cons_zero, List.set_cons_succ])
  refine wpAnyH_take (i := 4) (v := ?yv4) rfl (by kernel_rfl) (by kernel_rfl) (by kernel_rfl) (fun _ _ _ h => h) (Or.inl ⟨by rfl, ?yy4⟩) (by assumption) ?yr4
  case yy4 => (intro w hSw; (try dsimp only at hSw); go_simp; try with_reducible rfl)
  (try simp only [Act.put, List.getElem_toArray, List.getElem_cons_zero, List.getElem_cons_succ, List.setIfInBounds_toArray, List.set_cons_zero, List.set_cons_succ])
  refine wpAnyH_ready (rs := [2]) (by kernel_rfl) (by simp) (AllReadyH.cons rfl (fun K hK => ?_) AllReadyH.nil)
  go_simp
  refine (d2 _ (by assumption)).mono ?_
  rintro e w' ⟨rfl, hS⟩
  go_wp2_with fail
  refine hK.out _ _ hS (fun hHeld => ?_)
  clear hK K
  (try simp only [Act.put, List.getElem_toArray, List.getElem_cons_zero, List.getElem_cons_succ, List.setIfInBounds_toArray, List.set_cons_zero, List.set_cons_succ])
  refine wpAnyH_ready (rs := [5]) (by kernel_rfl) (by simp) (AllReadyH.cons rfl (fun K hK => ?_) AllReadyH.nil)
  go_simp
  refine (d3 _ (by assumption)).mono ?_
  rintro e w' ⟨rfl, hS⟩
  go_wp2_with fail
  refine hK.out _ _ hS (fun hHeld => ?_)
  clear hK K
  (try simp only [Act.put, List.getElem_toArray, List.getElem_cons_zero, List.getElem_cons_succ, List.setIfInBounds_toArray, List.set_cons_zero, List.set_cons_succ])
  refine wpAnyH_take (i := 6) (v := ?yv6) rfl (by kernel_rfl) (by kernel_rfl) (by kernel_rfl) (fun _ _ _ h => h) (Or.inl ⟨by rfl, ?yy6⟩) (by assumption) ?yr6
  case yy6 => (intro w hSw; (try dsimp only at hSw); go_simp; try with_reducible rfl)
  (try simp only [Act.put, List.getElem_toArray, List.getElem_cons_zero, List.getElem_cons_succ, List.setIfInBounds_toArray, List.set_cons_zero, List.set_cons_succ])
  refine wpAnyH_take (i := 7) (v := ?yv7) rfl (by kernel_rfl) (by kernel_rfl) (by kernel_rfl) (fun _ _ _ h => h) (Or.inl ⟨by rfl, ?yy7⟩) (by assumption) ?yr7
  case yy7 => (intro w hSw; (try dsimp only at hSw); go_simp; try with_reducible rfl)
  (try simp only [Act.put, List.getElem_toArray, List.getElem_cons_zero, List.getElem_cons_succ, List.setIfInBounds_toArray, List.set_cons_zero, List.set_cons_succ])
  refine wpAnyH_take (i := 11) (v := _) rfl (by kernel_rfl) (by kernel_rfl) (by kernel_rfl) (fun _ _ _ h => h) (yieldsIf_load_mid (by rfl) _ _ rfl _ _ rfl _ _ (fun _ h => h.1) hu rfl hi2) (by assumption) ?_
  (try simp only [Act.put, List.getElem_toArray, List.getElem_cons_zero, List.getElem_cons_succ, List.setIfInBounds_toArray, List.set_cons_zero, List.set_cons_succ])
  refine wpAnyH_take (i := 8) (v := ?yv8) rfl (by kernel_rfl) (by kernel_rfl) (by kernel_rfl) (fun _ _ _ h => h) (Or.inl ⟨by rfl, ?yy8⟩) (by assumption) ?yr8
  case yy8 => (intro w hSw; (try dsimp only at hSw); go_simp; try with_reducible rfl)
  (try simp only [Act.put, List.getElem_toArray, List.getElem_cons_zero, List.getElem_cons_succ, List.setIfInBounds_toArray, List.set_cons_zero, List.set_cons_succ])
  refine wpAnyH_take (i := 9) (v := ?yv9) rfl (by kernel_rfl) (by kernel_rfl) (by kernel_rfl) (fun _ _ _ h => h) (Or.inl ⟨by rfl, ?yy9⟩) (by assumption) ?yr9
  case yy9 => (intro w hSw; (try dsimp only at hSw); go_simp; try with_reducible rfl)
  (try simp only [Act.put, List.getElem_toArray, List.getElem_cons_zero, List.getElem_cons_succ, List.setIfInBounds_toArray, List.set_cons_zero, List.set_cons_succ])
  refine wpAnyH_take (i := 12) (v := ?yv12) rfl (by kernel_rfl) (by kernel_rfl) (by kernel_rfl) (fun _ _ _ h => h) (Or.inl ⟨by rfl, ?yy12⟩) (by assumption) ?yr12
  case yy12 => (intro w hSw; (try dsimp only at hSw); go_simp; try with_reducible rfl)
  (try simp only [Act.put, List.getElem_toArray, List.getElem_cons_zero, List.getElem_cons_succ, List.setIfInBounds_toArray, List.set_cons_zero, List.set_cons_succ])
  refine wpAnyH_ready (rs := [10]) (by kernel_rfl) (by simp) (AllReadyH.cons rfl (fun K hK => ?_) AllReadyH.nil)
  go_simp
  refine (d4 _ (by assumption)).mono ?_
  rintro e w' ⟨rfl, hS⟩
  go_wp2_with fail
  refine hK.out _ _ hS (fun hHeld => ?_)
  clear hK K
  (try simp only [Act.put, List.getElem_toArray, List.getElem_cons_zero, List.getElem_cons_succ, List.setIfInBounds_toArray, List.set_cons_zero, List.set_cons_succ])
  refine wpAnyH_ready (rs := [13]) (by kernel_rfl) (by simp) (AllReadyH.cons rfl (fun K hK => ?_) AllReadyH.nil)
  go_simp
  refine (d5 _ (by assumption)).mono ?_
  rintro e w' ⟨rfl, hS⟩
  go_wp2_with fail
  refine hK.out _ _ hS (fun hHeld => ?_)
  clear hK K
  (try simp only [Act.put, List.getElem_toArray, List.getElem_cons_zero, List.getElem_cons_succ, List.setIfInBounds_toArray, List.set_cons_zero, List.set_cons_succ])
  refine wpAnyH_take (i := 14) (v := ?yv14) rfl (by kernel_rfl) (by kernel_rfl) (by kernel_rfl) (fun _ _ _ h => h) (Or.inl ⟨by rfl, ?yy14⟩) (by assumption) ?yr14
  case yy14 => (intro w hSw; (try dsimp only at hSw); go_simp; try with_reducible rfl)
  (try simp only [Act.put, List.getElem_toArray, List.getElem_cons_zero, List.getElem_cons_succ, List.setIfInBounds_toArray, List.set_cons_zero, List.set_cons_succ])
  refine wpAnyH_take (i := 15) (v := ?yv15) rfl (by kernel_rfl) (by kernel_rfl) (by kernel_rfl) (fun _ _ _ h => h) (Or.inl ⟨by rfl, ?yy15⟩) (by assumption) ?yr15
  case yy15 => (intro w hSw; (try dsimp only at hSw); go_simp; try with_reducible rfl)
  (try simp only [Act.put, List.getElem_toArray, List.getElem_cons_zero, List.getElem_cons_succ, List.setIfInBounds_toArray, List.set_cons_zero, List.set_cons_succ])
  refine wpAnyH_take (i := 16) (v := ?yv16) rfl (by kernel_rfl) (by kernel_rfl) (by kernel_rfl) (fun _ _ _ h => h) (Or.inl ⟨by rfl, ?yy16⟩) (by assumption) ?yr16
  case yy16 => (intro w hSw; (try dsimp only at hSw); go_simp; try with_reducible rfl)
  (try simp only [Act.put, List.getElem_toArray, List.getElem_cons_zero, List.getElem_cons_succ, List.setIfInBounds_toArray, List.set_cons_zero, List.set_cons_succ])
  refine wpAnyH_ready (rs := [17]) (by kernel_rfl) (by simp) (AllReadyH.cons rfl (fun K hK => ?_) AllReadyH.nil)
  go_simp
  refine (d6 _ (by assumption)).mono ?_
  rintro e w' ⟨rfl, hS⟩
  go_wp2_with fail
  refine hK.out _ _ hS (fun hHeld => ?_)
  clear hK K
  (try simp only [Act.put, List.getElem_toArray, List.getElem_cons_zero, List.getElem_cons_succ, List.setIfInBounds_toArray, List.set_cons_zero, List.set_cons_succ])
  refine wpAnyH_take (i := 18) (v := ?yv18) rfl (by kernel_rfl) (by kernel_rfl) (by kernel_rfl) (fun _ _ _ h => h) (Or.inl ⟨by rfl, ?yy18⟩) (by assumption) ?yr18
  case yy18 => (intro w hSw; (try dsimp only at hSw); go_simp; try with_reducible rfl)
  (try simp only [Act.put, List.getElem_toArray, List.getElem_cons_zero, List.getElem_cons_succ, List.setIfInBounds_toArray, List.set_cons_zero, List.set_cons_succ])
  refine wpAnyH_take (i := 19) (v := ?yv19) rfl (by kernel_rfl) (by kernel_rfl) (by kernel_rfl) (fun _ _ _ h => h) (Or.inl ⟨by rfl, ?yy19⟩) (by assumption) ?yr19
  case yy19 => (intro w hSw; (try dsimp only at hSw); go_simp; try with_reducible rfl)
  (try simp only [Act.put, List.getElem_toArray, List.getElem_cons_zero, List.getElem_cons_succ, List.setIfInBounds_toArray, List.set_cons_zero, List.set_cons_succ])
  refine wpAnyH_done (by kernel_rfl) ?_ _
  go_wp2_with fail
  go_ret
  exact ⟨rfl, hS.2⟩

theorem walk_MaskRanks (w : World) (hT : Tab w) (a : Int) (wa : (Lit.int .u64 a).wf = true) (n : Int) (wn : (Lit.int .i64 n).wf = true) :
    Calls Tryd.prog 5 #[.int .u64 a, .int .i64 n] w fun e w' => e = .returned (.bool true) ∧ Below w.heap.size w w' := by
  have ba := u64_bounds wa
  have bn := i64_bounds wn
  obtain ⟨x, rfl⟩ := Int.eq_ofNat_of_zero_le ba.1
  have hx : x < 18446744073709551616 := by omega
  have c1 := fun W => from_any x W hx
  have c2 := fun W => rank_any x n W hx bn.2
  have c3 := fun W => rrank_any x n W
  by_cases hn : 0 ≤ n ∧ n < (pop x : Int)
  · obtain ⟨i, rfl⟩ := Int.eq_ofNat_of_zero_le hn.1
    exact ranks_core x (rankN x i) i _ (bitL x) w hT c1 c2 c3 (fun W hW => at_list x i W hx (by omega) hW) (fun W => rat_any x i W (by omega)) (bitL_len x)
  · have hn' : n < 0 ∨ (pop x : Int) ≤ n := by omega
    exact ranks_core x (rankN x n) n _ (bitL x) w hT c1 c2 c3 (fun W _ => at_none x n W hx hn') (fun W => rat_none x n W hn') (bitL_len x)

end Go.Proofs.YtbbcondoenmapacDoor.M
