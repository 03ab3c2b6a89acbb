/-
  Own text: the walk of the law TagSame.
-/
import Derived.Test.YtbbcondoenmapaeGSame
import Derived.Test.YtbbcondoenmapaeGAwake
import Derived.Test.YtbbcondoenmapaeOpenA
namespace Go.Proofs.Ytbbcondoenmapae.M
open Go.ChangeShapes Go.WideShapes Go.ChangeAt Go.RowKit

set_option maxRecDepth 20000 in
set_option linter.unusedSimpArgs false in
set_option maxHeartbeats 4000000 in
theorem same_core (w : World) (xs ys : List Int) (lx : xs.length = 16) (ly : ys.length = 16) (hx : Byt xs) (hy : Byt ys) :
    Calls Try.prog 5 #[.agg (nums .u8 xs), .agg (nums .u8 ys)] w fun e w' => e = .returned (.bool true) ∧ Below w.heap.size w w' := by
  obtain ⟨hA0, hB0, hb0⟩ := two_box w xs ys
  have hS : Hold w [(25, .u8, w.heap.size, xs), (25, .u8, w.heap.size + 1, ys)] _ := Hold.cons hA0 (Hold.cons hB0 (Hold.nil hb0))
  have c1 := fun W hS => hold_call (w := w) (l := [(25, .u8, w.heap.size, xs), (25, .u8, w.heap.size + 1, ys)]) hS (same_any xs ys W lx ly hx hy)
  have c2 := fun W hS => hold_call (w := w) (l := [(25, .u8, w.heap.size, xs), (25, .u8, w.heap.size + 1, ys)]) hS (same_any xs xs W lx lx hx hx)
  have c3 := fun W hS => hold_call (w := w) (l := [(25, .u8, w.heap.size, xs), (25, .u8, w.heap.size + 1, ys)]) hS (awake_any W)
  have q1 := fun W => eql16 xs ys lx ly W
  have hix : (Try.prog.info? 25).map (·.size) = some (xs.map (Value.int .u8)).length := by rw [List.length_map, lx]; exact infoB
  have hiy : (Try.prog.info? 25).map (·.size) = some (ys.map (Value.int .u8)).length := by rw [List.length_map, ly]; exact infoB
  rw [decide_eq_true (show xs = xs from rfl)] at c2
  generalize decide (xs = ys) = b at c1 q1
  clear hA0 hB0 hb0 hx hy
  go_enter Try.func5, Try.ntmps5
  go_wp2_with fail
  generalize ((w.alloc (.cells (nums .u8 xs) 25)).alloc (.cells (nums .u8 ys) 25)) = W0 at hS ⊢
  have hnx : nums .u8 xs = (xs.map (Value.int .u8)).toArray := rfl
  have hny : nums .u8 ys = (ys.map (Value.int .u8)).toArray := rfl
  rw [hnx, hny] at q1
  clear hnx hny
  refine wp_region_held_drew (S := (Hold w [(25, .u8, w.heap.size, xs), (25, .u8, w.heap.size + 1, ys)])) (by kernel_rfl) hS.drew (fun hHeld => ?_)
  clear hHeld
  have hS0 := hS.drew
  refine wpAnyH_take (i := 0) (v := _) rfl (by kernel_rfl) (by kernel_rfl) (by kernel_rfl) (fun _ _ _ h => h) (yieldsIf_load_mid (by rfl) _ _ rfl _ _ rfl _ _ (fun _ h => (h.at 0 rfl).range) Try.underlying25 rfl hix) hS0 ?_
  (try simp only [Act.put, List.getElem_toArray, List.getElem_cons_zero, List.getElem_cons_succ, List.setIfInBounds_toArray, List.set_cons_zero, List.set_cons_succ])
  refine wpAnyH_take (i := 1) (v := _) rfl (by kernel_rfl) (by kernel_rfl) (by kernel_rfl) (fun _ _ _ h => h) (yieldsIf_load_mid (by rfl) _ _ rfl _ _ rfl _ _ (fun _ h => (h.at 1 rfl).range) Try.underlying25 rfl hiy) hS0 ?_
  (try simp only [Act.put, List.getElem_toArray, List.getElem_cons_zero, List.getElem_cons_succ, List.setIfInBounds_toArray, List.set_cons_zero, List.set_cons_succ])
  refine wpAnyH_take (i := 3) (v := _) rfl (by kernel_rfl) (by kernel_rfl) (by kernel_rfl) (fun _ _ _ h => h) (yieldsIf_load_mid (by rfl) _ _ rfl _ _ rfl _ _ (fun _ h => (h.at 0 rfl).range) Try.underlying25 rfl hix) hS0 ?_
  (try simp only [Act.put, List.getElem_toArray, List.getElem_cons_zero, List.getElem_cons_succ, List.setIfInBounds_toArray, List.set_cons_zero, List.set_cons_succ])
  refine wpAnyH_take (i := 4) (v := _) rfl (by kernel_rfl) (by kernel_rfl) (by kernel_rfl) (fun _ _ _ h => h) (yieldsIf_load_mid (by rfl) _ _ rfl _ _ rfl _ _ (fun _ h => (h.at 1 rfl).range) Try.underlying25 rfl hiy) hS0 ?_
  (try simp only [Act.put, List.getElem_toArray, List.getElem_cons_zero, List.getElem_cons_succ, List.setIfInBounds_toArray, List.set_cons_zero, List.set_cons_succ])
  refine wpAnyH_take (i := 5) (v := ?yv5) rfl (by kernel_rfl) (by kernel_rfl) (by kernel_rfl) (fun _ _ _ h => h) (Or.inl ⟨by rfl, ?yy5⟩) hS0 ?yr5
  case yy5 => (intro w hSw; (try dsimp only at hSw); go_simp; try with_reducible rfl)
  (try simp only [Act.put, List.getElem_toArray, List.getElem_cons_zero, List.getElem_cons_succ, List.setIfInBounds_toArray, List.set_cons_zero, List.set_cons_succ])
  refine wpAnyH_ready (rs := [2]) (by kernel_rfl) (by simp) (AllReadyH.cons rfl (fun K hK => ?_) AllReadyH.nil)
  go_simp
  refine (c1 _ hS0).mono ?_
  rintro e w1 ⟨rfl, hS1⟩
  go_wp2_with fail
  refine hK.out _ _ hS1 (fun hHeld => ?_)
  clear hK K hHeld
  (try simp only [Act.put, List.getElem_toArray, List.getElem_cons_zero, List.getElem_cons_succ, List.setIfInBounds_toArray, List.set_cons_zero, List.set_cons_succ])
  refine wpAnyH_take (i := 6) (v := ?yv6) rfl (by kernel_rfl) (by kernel_rfl) (by kernel_rfl) (fun _ _ _ h => h) (Or.inl ⟨by rfl, ?yy6⟩) hS1 ?yr6
  case yy6 => (intro w hSw; (try dsimp only at hSw); go_simp; try with_reducible rfl)
  (try simp only [Act.put, List.getElem_toArray, List.getElem_cons_zero, List.getElem_cons_succ, List.setIfInBounds_toArray, List.set_cons_zero, List.set_cons_succ])
  refine wpAnyH_take (i := 7) (v := ?yv7) rfl (by kernel_rfl) (by kernel_rfl) (by kernel_rfl) (fun _ _ _ h => h) (Or.inl ⟨by rfl, ?yy7⟩) hS1 ?yr7
  case yy7 => (intro w hSw; (try dsimp only at hSw); go_simp; try with_reducible rfl)
  (try simp only [Act.put, List.getElem_toArray, List.getElem_cons_zero, List.getElem_cons_succ, List.setIfInBounds_toArray, List.set_cons_zero, List.set_cons_succ])
  refine wpAnyH_take (i := 8) (v := _) rfl (by kernel_rfl) (by kernel_rfl) (by kernel_rfl) (fun _ _ _ h => h) (yieldsIf_load_mid (by rfl) _ _ rfl _ _ rfl _ _ (fun _ h => (h.at 0 rfl).range) Try.underlying25 rfl hix) hS1 ?_
  (try simp only [Act.put, List.getElem_toArray, List.getElem_cons_zero, List.getElem_cons_succ, List.setIfInBounds_toArray, List.set_cons_zero, List.set_cons_succ])
  refine wpAnyH_take (i := 9) (v := _) rfl (by kernel_rfl) (by kernel_rfl) (by kernel_rfl) (fun _ _ _ h => h) (yieldsIf_load_mid (by rfl) _ _ rfl _ _ rfl _ _ (fun _ h => (h.at 0 rfl).range) Try.underlying25 rfl hix) hS1 ?_
  (try simp only [Act.put, List.getElem_toArray, List.getElem_cons_zero, List.getElem_cons_succ, List.setIfInBounds_toArray, List.set_cons_zero, List.set_cons_succ])
  refine wpAnyH_ready (rs := [10]) (by kernel_rfl) (by simp) (AllReadyH.cons rfl (fun K hK => ?_) AllReadyH.nil)
  go_simp
  refine (c2 _ hS1).mono ?_
  rintro e w2 ⟨rfl, hS2⟩
  go_wp2_with fail
  refine hK.out _ _ hS2 (fun hHeld => ?_)
  clear hK K hHeld
  (try simp only [Act.put, List.getElem_toArray, List.getElem_cons_zero, List.getElem_cons_succ, List.setIfInBounds_toArray, List.set_cons_zero, List.set_cons_succ])
  refine wpAnyH_take (i := 11) (v := ?yv11) rfl (by kernel_rfl) (by kernel_rfl) (by kernel_rfl) (fun _ _ _ h => h) (Or.inl ⟨by rfl, ?yy11⟩) hS2 ?yr11
  case yy11 => (intro w hSw; (try dsimp only at hSw); go_simp; try with_reducible rfl)
  (try simp only [Act.put, List.getElem_toArray, List.getElem_cons_zero, List.getElem_cons_succ, List.setIfInBounds_toArray, List.set_cons_zero, List.set_cons_succ])
  refine wpAnyH_take (i := 12) (v := ?yv12) rfl (by kernel_rfl) (by kernel_rfl) (by kernel_rfl) (fun _ _ _ h => h) (Or.inl ⟨by rfl, ?yy12⟩) hS2 ?yr12
  case yy12 => (intro w hSw; (try dsimp only at hSw); go_simp; try with_reducible rfl)
  (try simp only [Act.put, List.getElem_toArray, List.getElem_cons_zero, List.getElem_cons_succ, List.setIfInBounds_toArray, List.set_cons_zero, List.set_cons_succ])
  refine wpAnyH_ready (rs := [13]) (by kernel_rfl) (by simp) (AllReadyH.cons rfl (fun K hK => ?_) AllReadyH.nil)
  go_simp
  refine (c3 _ hS2).mono ?_
  rintro e w3 ⟨rfl, hS3⟩
  go_wp2_with fail
  refine hK.out _ _ hS3 (fun hHeld => ?_)
  clear hK K hHeld
  (try simp only [Act.put, List.getElem_toArray, List.getElem_cons_zero, List.getElem_cons_succ, List.setIfInBounds_toArray, List.set_cons_zero, List.set_cons_succ])
  refine wpAnyH_take (i := 14) (v := ?yv14) rfl (by kernel_rfl) (by kernel_rfl) (by kernel_rfl) (fun _ _ _ h => h) (Or.inl ⟨by rfl, ?yy14⟩) hS3 ?yr14
  case yy14 => (intro w hSw; (try dsimp only at hSw); go_simp; try with_reducible rfl)
  (try simp only [Act.put, List.getElem_toArray, List.getElem_cons_zero, List.getElem_cons_succ, List.setIfInBounds_toArray, List.set_cons_zero, List.set_cons_succ])
  refine wpAnyH_take (i := 15) (v := ?yv15) rfl (by kernel_rfl) (by kernel_rfl) (by kernel_rfl) (fun _ _ _ h => h) (Or.inl ⟨by rfl, ?yy15⟩) hS3 ?yr15
  case yy15 => (intro w hSw; (try dsimp only at hSw); go_simp; try with_reducible rfl)
  (try simp only [Act.put, List.getElem_toArray, List.getElem_cons_zero, List.getElem_cons_succ, List.setIfInBounds_toArray, List.set_cons_zero, List.set_cons_succ])
  refine wpAnyH_done (by kernel_rfl) ?_ _
  go_wp2_with fail
  go_ret
  exact ⟨rfl, hS3.2⟩

theorem walk_TagSame (w : World) (xs : List Int) (lx : xs.length = 16) (wx : ∀ x ∈ xs, (Lit.int .u8 x).wf = true) (ys : List Int) (ly : ys.length = 16) (wy : ∀ x ∈ ys, (Lit.int .u8 x).wf = true) :
    Calls Try.prog 5 #[.agg (nums .u8 xs), .agg (nums .u8 ys)] w fun e w' => e = .returned (.bool true) ∧ Below w.heap.size w w' :=
  same_core w xs ys lx ly (by_of_wf wx) (by_of_wf wy)

end Go.Proofs.Ytbbcondoenmapae.M
