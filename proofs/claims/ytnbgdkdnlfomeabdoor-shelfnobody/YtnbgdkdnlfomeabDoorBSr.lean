/-
  Own text: what short answers of one call.
-/
import Derived.Test.YtnbgdkdnlfomeabDoorBDo
import Derived.Test.YtnbgdkdnlfomeabDoorBDet
namespace Go.Proofs.YtnbgdkdnlfomeabDoor.M
open Go.ChangeShapes Go.WideShapes Go.ChangeAt Go.RowKit Go.ChangeMaps Go.MapKept Go.Maps Go.Shelf Go.Proofs
set_option linter.unusedSimpArgs false

theorem cell_belowC {w W : World} {p : Addr} {v : Value} (hb : Below w.heap.size w W) (h : w.cell? p = some v) : W.cell? p = some v := (hb.cell (World.block_lt_of_cell? _ _ h)).trans h

/-- The answer is a bool. -/
def IsB (e : Ending) : Prop := ∃ b, e = .returned (.bool b)

set_option maxRecDepth 20000 in
set_option maxHeartbeats 2000000 in
theorem short1_any {w : World} {g1 g2 : Nat} {d : Dv} (hd : DAt w g1 0 d) (hl : w.cell? ⟨g2, 0, none⟩ = some (.slice (some ⟨g1, 0, none⟩) 1 1)) :
    Calls Tryd.prog 6 #[.slice (some ⟨g2, 0, none⟩) 1 1] w fun e w' => IsB e ∧ Below w.heap.size w w' := by
  have hs := hd.s
  have hx := hd.x11
  simp only [Nat.zero_add] at hs hx
  clear hd
  go_enter Tryd.func6, Tryd.ntmps6
  go_wp2_with fail
  go_loopw [3, 4, 10] (fun x y i wr => ∃ (k : Nat) (p q : Int), k ≤ 1 ∧ i = .int .i64 k ∧ x = .int .i64 p ∧ y = .int .i64 q ∧ Below w.heap.size w wr) (fun _ _ i _ => 1 - (intOf i).toNat)
  case atStart => exact ⟨0, 0, 0, Nat.zero_le _, rfl, rfl, rfl, Below.refl _ _⟩
  case round =>
    obtain ⟨k, x, y, hk, rfl, rfl, rfl, hb⟩ := hrel
    by_cases hkn : k < 1
    · obtain rfl : k = 0 := by omega
      have hl2 := cell_belowC hb hl
      go_wp2_with fail
      go_loopw [3, 4, 7] (fun x y i wq => ∃ (j : Nat) (p q : Int), j ≤ 1 ∧ i = .int .i64 j ∧ x = .int .i64 p ∧ y = .int .i64 q ∧ Below w.heap.size w wq) (fun _ _ i _ => 1 - (intOf i).toNat)
      case atStart => exact ⟨0, x, y, Nat.zero_le _, rfl, rfl, rfl, hb⟩
      case round =>
        rename_i wk _ _
        clear hb hl2 hl
        obtain ⟨j, x, y, hj, rfl, rfl, rfl, hb⟩ := hrel
        by_cases hjm : j < 1
        · obtain rfl : j = 0 := by omega
          by_cases hy : y ≤ 120
          · by_cases hx8 : x ≤ 8192
            · have e5 := cell_belowC hb hs
              have e26 := cell_belowC hb hx
              clear hs hx
              go_wp2_with fail
              have hS0 : Bl wr wr.drew := (Below.refl _ _).drew
              refine wp_region_det [0, 1, 2, 3, 4, 5, 6, 7, 8, 9, 10, 11, 12, 13, 14, 15, 16, 17, 18] (Bl wr) (Bl wr) (by kernel_rfl) hS0 ?_
              refine wpDet_take ?vW0 (Bl.stays wr) (fun _ h => h) (i := 0) rfl (by kernel_rfl) (by kernel_rfl) (by kernel_rfl) (by kernel_rfl) (fun _ _ _ h => h) (Gives.value (by rfl) ?yW0) ?rW0
              case yW0 => (intro w' hSw; (try dsimp only at hSw); go_simp; try with_reducible rfl)
              (try simp only [Act.put, List.getElem_toArray, List.getElem_cons_zero, List.getElem_cons_succ, List.setIfInBounds_toArray, List.set_cons_zero, List.set_cons_succ])
              refine wpDet_take ?vW1 (Bl.stays wr) (fun _ h => h) (i := 1) rfl (by kernel_rfl) (by kernel_rfl) (by kernel_rfl) (by kernel_rfl) (fun _ _ _ h => h) (Gives.value (by rfl) ?yW1) ?rW1
              case yW1 => (intro w' hSw; (try dsimp only at hSw); go_simp; try with_reducible rfl)
              (try simp only [Act.put, List.getElem_toArray, List.getElem_cons_zero, List.getElem_cons_succ, List.setIfInBounds_toArray, List.set_cons_zero, List.set_cons_succ])
              refine wpDet_take ?vW2 (Bl.stays wr) (fun _ h => h) (i := 2) rfl (by kernel_rfl) (by kernel_rfl) (by kernel_rfl) (by kernel_rfl) (fun _ _ _ h => h) (Gives.value (by rfl) ?yW2) ?rW2
              case yW2 => (intro w' hSw; (try dsimp only at hSw); go_simp; try with_reducible rfl)
              (try simp only [Act.put, List.getElem_toArray, List.getElem_cons_zero, List.getElem_cons_succ, List.setIfInBounds_toArray, List.set_cons_zero, List.set_cons_succ])
              refine wpDet_take ?vW3 (Bl.stays wr) (fun _ h => h) (i := 3) rfl (by kernel_rfl) (by kernel_rfl) (by kernel_rfl) (by kernel_rfl) (fun _ _ _ h => h) (Gives.value (by rfl) ?yW3) ?rW3
              case yW3 => (intro w' hSw; (try dsimp only at hSw); go_simp; try with_reducible rfl)
              (try simp only [Act.put, List.getElem_toArray, List.getElem_cons_zero, List.getElem_cons_succ, List.setIfInBounds_toArray, List.set_cons_zero, List.set_cons_succ])
              refine wpDet_take ?vW4 (Bl.stays wr) (fun _ h => h) (i := 4) rfl (by kernel_rfl) (by kernel_rfl) (by kernel_rfl) (by kernel_rfl) (fun _ _ _ h => h) (Gives.value (by rfl) ?yW4) ?rW4
              case yW4 => (intro w' hSw; (try dsimp only at hSw); go_simp; try with_reducible rfl)
              (try simp only [Act.put, List.getElem_toArray, List.getElem_cons_zero, List.getElem_cons_succ, List.setIfInBounds_toArray, List.set_cons_zero, List.set_cons_succ])
              refine wpDet_take ?vW5 (Bl.stays wr) (fun _ h => h) (i := 5) rfl (by kernel_rfl) (by kernel_rfl) (by kernel_rfl) (by kernel_rfl) (fun _ _ _ h => h) (Gives.value (by rfl) ?yW5) ?rW5
              case yW5 => (intro w' hSw; have d5 := cell_belowC (Bl.out hSw) e5; have d26 := cell_belowC (Bl.out hSw) e26; (try dsimp only at hSw); go_simp; try with_reducible rfl)
              (try simp only [Act.put, List.getElem_toArray, List.getElem_cons_zero, List.getElem_cons_succ, List.setIfInBounds_toArray, List.set_cons_zero, List.set_cons_succ])
              refine wpDet_take ?vW6 (Bl.stays wr) (fun _ h => h) (i := 6) rfl (by kernel_rfl) (by kernel_rfl) (by kernel_rfl) (by kernel_rfl) (fun _ _ _ h => h) (Gives.value (by rfl) ?yW6) ?rW6
              case yW6 => (intro w' hSw; have d5 := cell_belowC (Bl.out hSw) e5; have d26 := cell_belowC (Bl.out hSw) e26; (try dsimp only at hSw); go_simp; try with_reducible rfl)
              (try simp only [Act.put, List.getElem_toArray, List.getElem_cons_zero, List.getElem_cons_succ, List.setIfInBounds_toArray, List.set_cons_zero, List.set_cons_succ])
              refine wpDet_take ?vW7 (Bl.stays wr) (fun _ h => h) (i := 7) rfl (by kernel_rfl) (by kernel_rfl) (by kernel_rfl) (by kernel_rfl) (fun _ _ _ h => h) (Gives.value (by rfl) ?yW7) ?rW7
              case yW7 => (intro w' hSw; have d5 := cell_belowC (Bl.out hSw) e5; have d26 := cell_belowC (Bl.out hSw) e26; (try dsimp only at hSw); go_simp; try with_reducible rfl)
              (try simp only [Act.put, List.getElem_toArray, List.getElem_cons_zero, List.getElem_cons_succ, List.setIfInBounds_toArray, List.set_cons_zero, List.set_cons_succ])
              refine wpDet_take ?vW8 (Bl.stays wr) (fun _ h => h) (i := 8) rfl (by kernel_rfl) (by kernel_rfl) (by kernel_rfl) (by kernel_rfl) (fun _ _ _ h => h) (Gives.value (by rfl) ?yW8) ?rW8
              case yW8 => (intro w' hSw; (try dsimp only at hSw); go_simp; try with_reducible rfl)
              (try simp only [Act.put, List.getElem_toArray, List.getElem_cons_zero, List.getElem_cons_succ, List.setIfInBounds_toArray, List.set_cons_zero, List.set_cons_succ])
              refine wpDet_take ?vW9 (Bl.stays wr) (fun _ h => h) (i := 9) rfl (by kernel_rfl) (by kernel_rfl) (by kernel_rfl) (by kernel_rfl) (fun _ _ _ h => h) (Gives.value (by rfl) ?yW9) ?rW9
              case yW9 => (intro w' hSw; (try dsimp only at hSw); go_simp; try with_reducible rfl)
              (try simp only [Act.put, List.getElem_toArray, List.getElem_cons_zero, List.getElem_cons_succ, List.setIfInBounds_toArray, List.set_cons_zero, List.set_cons_succ])
              refine wpDet_take ?vW10 (Bl.stays wr) (fun _ h => h) (i := 10) rfl (by kernel_rfl) (by kernel_rfl) (by kernel_rfl) (by kernel_rfl) (fun _ _ _ h => h) (Gives.value (by rfl) ?yW10) ?rW10
              case yW10 => (intro w' hSw; (try dsimp only at hSw); go_simp; try with_reducible rfl)
              (try simp only [Act.put, List.getElem_toArray, List.getElem_cons_zero, List.getElem_cons_succ, List.setIfInBounds_toArray, List.set_cons_zero, List.set_cons_succ])
              refine wpDet_take ?vW11 (Bl.stays wr) (fun _ h => h) (i := 11) rfl (by kernel_rfl) (by kernel_rfl) (by kernel_rfl) (by kernel_rfl) (fun _ _ _ h => h) (Gives.value (by rfl) ?yW11) ?rW11
              case yW11 => (intro w' hSw; (try dsimp only at hSw); go_simp; try with_reducible rfl)
              (try simp only [Act.put, List.getElem_toArray, List.getElem_cons_zero, List.getElem_cons_succ, List.setIfInBounds_toArray, List.set_cons_zero, List.set_cons_succ])
              refine wpDet_take ?vW12 (Bl.stays wr) (fun _ h => h) (i := 12) rfl (by kernel_rfl) (by kernel_rfl) (by kernel_rfl) (by kernel_rfl) (fun _ _ _ h => h) (Gives.value (by rfl) ?yW12) ?rW12
              case yW12 => (intro w' hSw; (try dsimp only at hSw); go_simp; try with_reducible rfl)
              (try simp only [Act.put, List.getElem_toArray, List.getElem_cons_zero, List.getElem_cons_succ, List.setIfInBounds_toArray, List.set_cons_zero, List.set_cons_succ])
              refine wpDet_take ?vW13 (Bl.stays wr) (fun _ h => h) (i := 13) rfl (by kernel_rfl) (by kernel_rfl) (by kernel_rfl) (by kernel_rfl) (fun _ _ _ h => h) (Gives.value (by rfl) ?yW13) ?rW13
              case yW13 => (intro w' hSw; have d5 := cell_belowC (Bl.out hSw) e5; have d26 := cell_belowC (Bl.out hSw) e26; (try dsimp only at hSw); go_simp; try with_reducible rfl)
              (try simp only [Act.put, List.getElem_toArray, List.getElem_cons_zero, List.getElem_cons_succ, List.setIfInBounds_toArray, List.set_cons_zero, List.set_cons_succ])
              refine wpDet_take ?vW14 (Bl.stays wr) (fun _ h => h) (i := 14) rfl (by kernel_rfl) (by kernel_rfl) (by kernel_rfl) (by kernel_rfl) (fun _ _ _ h => h) (Gives.value (by rfl) ?yW14) ?rW14
              case yW14 => (intro w' hSw; have d5 := cell_belowC (Bl.out hSw) e5; have d26 := cell_belowC (Bl.out hSw) e26; (try dsimp only at hSw); go_simp; try with_reducible rfl)
              (try simp only [Act.put, List.getElem_toArray, List.getElem_cons_zero, List.getElem_cons_succ, List.setIfInBounds_toArray, List.set_cons_zero, List.set_cons_succ])
              refine wpDet_take ?vW15 (Bl.stays wr) (fun _ h => h) (i := 15) rfl (by kernel_rfl) (by kernel_rfl) (by kernel_rfl) (by kernel_rfl) (fun _ _ _ h => h) (Gives.value (by rfl) ?yW15) ?rW15
              case yW15 => (intro w' hSw; have d5 := cell_belowC (Bl.out hSw) e5; have d26 := cell_belowC (Bl.out hSw) e26; (try dsimp only at hSw); go_simp; try with_reducible rfl)
              (try simp only [Act.put, List.getElem_toArray, List.getElem_cons_zero, List.getElem_cons_succ, List.setIfInBounds_toArray, List.set_cons_zero, List.set_cons_succ])
              refine wpDet_take ?vW16 (Bl.stays wr) (fun _ h => h) (i := 16) rfl (by kernel_rfl) (by kernel_rfl) (by kernel_rfl) (by kernel_rfl) (fun _ _ _ h => h) (Gives.value (by rfl) ?yW16) ?rW16
              case yW16 => (intro w' hSw; (try dsimp only at hSw); go_simp; try with_reducible rfl)
              (try simp only [Act.put, List.getElem_toArray, List.getElem_cons_zero, List.getElem_cons_succ, List.setIfInBounds_toArray, List.set_cons_zero, List.set_cons_succ])
              refine wpDet_take ?vW17 (Bl.stays wr) (fun _ h => h) (i := 17) rfl (by kernel_rfl) (by kernel_rfl) (by kernel_rfl) (by kernel_rfl) (fun _ _ _ h => h) (Gives.value (by rfl) ?yW17) ?rW17
              case yW17 => (intro w' hSw; (try dsimp only at hSw); go_simp; try with_reducible rfl)
              (try simp only [Act.put, List.getElem_toArray, List.getElem_cons_zero, List.getElem_cons_succ, List.setIfInBounds_toArray, List.set_cons_zero, List.set_cons_succ])
              refine wpDet_take ?vW18 (Bl.stays wr) (fun _ h => h) (i := 18) rfl (by kernel_rfl) (by kernel_rfl) (by kernel_rfl) (by kernel_rfl) (fun _ _ _ h => h) (Gives.value (by rfl) ?yW18) ?rW18
              case yW18 => (intro w' hSw; (try dsimp only at hSw); go_simp; try with_reducible rfl)
              (try simp only [Act.put, List.getElem_toArray, List.getElem_cons_zero, List.getElem_cons_succ, List.setIfInBounds_toArray, List.set_cons_zero, List.set_cons_succ])
              refine wpDet_done (by kernel_rfl) (fun W9 hV => ?_) _
              have hb9 := hb.trans ((Bl.out hV).mono hb.size)
              clear hV
              go_wp2_with fail
              exact ⟨⟨1, _, _, by omega, by go_num, rfl, rfl, hb9⟩, by simp [intOf]⟩
            · go_wp2_with fail
              exact ⟨⟨1, x, y, by omega, by go_num, rfl, rfl, hb⟩, by simp [intOf]⟩
          · go_wp2_with fail
            exact ⟨⟨1, x, y, by omega, by go_num, rfl, rfl, hb⟩, by simp [intOf]⟩
        · obtain rfl : j = 1 := by omega
          go_wp2_with fail
          exact ⟨⟨1, x, y, by omega, by go_num, rfl, rfl, hb⟩, by simp [intOf]⟩
    · obtain rfl : k = 1 := by omega
      by_cases hq : y ≤ 120
      · go_wp2_with fail
        go_ret
        exact ⟨⟨_, rfl⟩, hb⟩
      · go_wp2_with fail
        go_ret
        exact ⟨⟨_, rfl⟩, hb⟩

end Go.Proofs.YtnbgdkdnlfomeabDoor.M
