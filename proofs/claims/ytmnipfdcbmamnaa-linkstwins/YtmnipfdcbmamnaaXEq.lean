/-
  Own text: slices.Equal of links that are the same.
-/
import Derived.Test.YtmnipfdcbmamnaaXBusy
namespace Go.Proofs.Ytmnipfdcbmamnaa.M
open Go.ChangeShapes Go.WideShapes Go.ChangeAt Go.RowKit Go.ChangeMaps Go.MapKept Go.Maps
set_option linter.unusedSimpArgs false

theorem RdL.range {w : World} {b o n c k : Nat} {ss : List (Int × Int)} (h : RdL w (some ⟨b, o, none⟩) n c ss) (hk : k < n) {tt : Int × Int} (ht : ss.getD k (0, 0) = tt) : w.rangeAt b (o + k * 2) [.int .i64 tt.1, .int .i64 tt.2] := by
  obtain ⟨b', o', e, hc⟩ := h.cells (by omega)
  cases e
  obtain ⟨k0, k1⟩ := hc k hk
  rw [ht] at k0 k1
  intro j u hu
  match j, hu with
  | 0, hu => cases hu; exact k0
  | 1, hu => cases hu; exact k1

set_option maxRecDepth 20000 in
set_option maxHeartbeats 2000000 in
theorem eqL_same {w : World} {p q : Option Addr} {n c d : Nat} {ss : List (Int × Int)} (hp : RdL w p n c ss) (hq : RdL w q n d ss) (hn : n ≤ 1000000) :
    Calls Try.prog 17 #[.slice p n c, .slice q n d] w fun o w' => o = .returned (.bool true) ∧ Below w.heap.size w w' := by
  have hnn : ((n : Int) != (n : Int)) = false := bne_self_eq_false _
  go_enter Try.func17, Try.ntmps17
  go_wp2_with fail
  go_loopw [13] (fun ix wr => ∃ j : Nat, j ≤ n ∧ ix = .int .i64 j ∧ Below w.heap.size w wr) (fun ix _ => n - (intOf ix).toNat)
  case atStart => exact ⟨0, Nat.zero_le _, rfl, Below.refl _ _⟩
  case round =>
    obtain ⟨j, hj, rfl, hb⟩ := hrel
    by_cases hjn : j < n
    · have hji : (j : Int) < (n : Int) := by omega
      have hp2 := hp.below hb
      have hq2 := hq.below hb
      obtain ⟨b1, o1, rfl, -⟩ := hp2.cells (by omega)
      obtain ⟨b2, o2, rfl, -⟩ := hq2.cells (by omega)
      obtain ⟨tt, HT⟩ : ∃ z, Hid (ss.getD j (0, 0) = z) := ⟨_, rfl⟩
      have hcp : n ≤ c ∨ True := Or.inr trivial
      have hS0w : ∀ W, Bl wr W → W.rangeAt b1 (o1 + j * 2) [.int .i64 tt.1, .int .i64 tt.2] ∧ W.rangeAt b2 (o2 + j * 2) [.int .i64 tt.1, .int .i64 tt.2] := fun W h => ⟨(hp2.below h).range hjn HT.out, (hq2.below h).range hjn HT.out⟩
      have hNq : ∀ W : World, (binOp .neq 33 (.agg #[.int .i64 tt.1, .int .i64 tt.2]) (.agg #[.int .i64 tt.1, .int .i64 tt.2])).run Try.prog W = .ok (.bool false) W := fun W => by rw [neqLk, decide_eq_true ⟨rfl, rfl⟩]; rfl
      clear HT
      go_wp2_with fail
      have hS0 : Bl wr wr.drew := (Below.refl _ _).drew
      refine wp_region_det [0, 1, 2, 3, 4, 5, 6, 7, 8] (fun W => W.rangeAt b1 (o1 + j * 2) [.int .i64 tt.1, .int .i64 tt.2] ∧ W.rangeAt b2 (o2 + j * 2) [.int .i64 tt.1, .int .i64 tt.2]) (Bl wr) (by kernel_rfl) hS0 ?_
      refine wpDet_take ?vA0 (Bl.stays wr) hS0w (i := 0) rfl (by kernel_rfl) (by kernel_rfl) (by kernel_rfl) (by kernel_rfl) (fun _ _ _ h => h) (Gives.value (by rfl) ?yA0) ?rA0
      case yA0 => (intro w' hSw; go_simp; try with_reducible rfl)
      (try simp only [Act.put, List.getElem_toArray, List.getElem_cons_zero, List.getElem_cons_succ, List.setIfInBounds_toArray, List.set_cons_zero, List.set_cons_succ])
      refine wpDet_take ?vA1 (Bl.stays wr) hS0w (i := 1) rfl (by kernel_rfl) (by kernel_rfl) (by kernel_rfl) (by kernel_rfl) (fun _ _ _ h => h) (Gives.value (by rfl) ?yA1) ?rA1
      case yA1 => (intro w' hSw; go_simp; try with_reducible rfl)
      (try simp only [Act.put, List.getElem_toArray, List.getElem_cons_zero, List.getElem_cons_succ, List.setIfInBounds_toArray, List.set_cons_zero, List.set_cons_succ])
      refine wpDet_take (.pointer (some ⟨b1, o1 + j * 2, none⟩)) (Bl.stays wr) hS0w (i := 2) rfl (by kernel_rfl) (by kernel_rfl) (by kernel_rfl) (by kernel_rfl) (fun _ _ _ h => h) (Gives.value (by rfl) ?yA2) ?rA2
      case yA2 => (intro w' hSw; go_simp; (try (intro hh; omega)))
      (try simp only [Act.put, List.getElem_toArray, List.getElem_cons_zero, List.getElem_cons_succ, List.setIfInBounds_toArray, List.set_cons_zero, List.set_cons_succ])
      refine wpDet_take _ (Bl.stays wr) hS0w (i := 3) rfl (by kernel_rfl) (by kernel_rfl) (by kernel_rfl) (by kernel_rfl) (fun _ _ _ h => h) (Gives.of_yields (yieldsIf_load_mid (by rfl) _ _ rfl _ _ rfl _ _ (fun W h => h.1) Try.underlying33 rfl sizeLk)) ?_
      (try simp only [Act.put, List.getElem_toArray, List.getElem_cons_zero, List.getElem_cons_succ, List.setIfInBounds_toArray, List.set_cons_zero, List.set_cons_succ])
      refine wpDet_take ?vA4 (Bl.stays wr) hS0w (i := 4) rfl (by kernel_rfl) (by kernel_rfl) (by kernel_rfl) (by kernel_rfl) (fun _ _ _ h => h) (Gives.value (by rfl) ?yA4) ?rA4
      case yA4 => (intro w' hSw; go_simp; try with_reducible rfl)
      (try simp only [Act.put, List.getElem_toArray, List.getElem_cons_zero, List.getElem_cons_succ, List.setIfInBounds_toArray, List.set_cons_zero, List.set_cons_succ])
      refine wpDet_take ?vA5 (Bl.stays wr) hS0w (i := 5) rfl (by kernel_rfl) (by kernel_rfl) (by kernel_rfl) (by kernel_rfl) (fun _ _ _ h => h) (Gives.value (by rfl) ?yA5) ?rA5
      case yA5 => (intro w' hSw; go_simp; try with_reducible rfl)
      (try simp only [Act.put, List.getElem_toArray, List.getElem_cons_zero, List.getElem_cons_succ, List.setIfInBounds_toArray, List.set_cons_zero, List.set_cons_succ])
      refine wpDet_take (.pointer (some ⟨b2, o2 + j * 2, none⟩)) (Bl.stays wr) hS0w (i := 6) rfl (by kernel_rfl) (by kernel_rfl) (by kernel_rfl) (by kernel_rfl) (fun _ _ _ h => h) (Gives.value (by rfl) ?yA6) ?rA6
      case yA6 => (intro w' hSw; go_simp; (try (intro hh; omega)))
      (try simp only [Act.put, List.getElem_toArray, List.getElem_cons_zero, List.getElem_cons_succ, List.setIfInBounds_toArray, List.set_cons_zero, List.set_cons_succ])
      refine wpDet_take _ (Bl.stays wr) hS0w (i := 7) rfl (by kernel_rfl) (by kernel_rfl) (by kernel_rfl) (by kernel_rfl) (fun _ _ _ h => h) (Gives.of_yields (yieldsIf_load_mid (by rfl) _ _ rfl _ _ rfl _ _ (fun W h => h.2) Try.underlying33 rfl sizeLk)) ?_
      (try simp only [Act.put, List.getElem_toArray, List.getElem_cons_zero, List.getElem_cons_succ, List.setIfInBounds_toArray, List.set_cons_zero, List.set_cons_succ])
      refine wpDet_take (.bool false) (Bl.stays wr) hS0w (i := 8) rfl (by kernel_rfl) (by kernel_rfl) (by kernel_rfl) (by kernel_rfl) (fun _ _ _ h => h) (Gives.value (by rfl) ?yA8) ?rA8
      case yA8 => (intro w' hSw; have hz0 := hNq w'; go_simp; try with_reducible rfl)
      (try simp only [Act.put, List.getElem_toArray, List.getElem_cons_zero, List.getElem_cons_succ, List.setIfInBounds_toArray, List.set_cons_zero, List.set_cons_succ])
      refine wpDet_done (by kernel_rfl) (fun W6 hW6 => ?_) _
      have hb6 : Below w.heap.size w W6 := hb.trans (Below.mono (Bl.out' hW6) hb.size)
      clear hW6 hNq hS0w
      go_wp2_with fail
      go_roundw
      case rel => exact ⟨j + 1, by omega, by go_num, hb6⟩
      case measure => simp [intOf]; omega
    · have hji : ¬ (j : Int) < (n : Int) := by omega
      go_wp2_with fail
      go_ret
      exact ⟨rfl, hb⟩

end Go.Proofs.Ytmnipfdcbmamnaa.M
