/-
  Own text: Open of a tape on a disk that no call made.
-/
import Derived.Test.YtpjhadaiodnnaaaTNob
namespace Go.Proofs.Ytpjhadaiodnnaaa.M
open Go.ChangeShapes Go.WideShapes Go.ChangeAt Go.RowKit
set_option linter.unusedSimpArgs false

/-- A disk that no call made: none, or one without room. -/
def Nob (v : Value) (w : World) : Prop := v = .pointer none ∨ ∃ g, v = .pointer (some ⟨g, 0, none⟩) ∧ w.cell? ⟨g, 0, none⟩ = some (.int .i64 0)

theorem Nob.below {v : Value} {w w' : World} (h : Nob v w) (hb : Below w.heap.size w w') : Nob v w' := by
  rcases h with h | ⟨g, h, hc⟩
  · exact Or.inl h
  · exact Or.inr ⟨g, h, by rw [hb.cell (p := ⟨g, 0, none⟩) (World.block_lt_of_cell? _ _ hc)]; exact hc⟩

theorem made_nob (v : Value) (w : World) (h : Nob v w) : Calls Try.prog 63 #[v] w fun e w' => e = .returned (.bool false) ∧ w' = w := by
  rcases h with rfl | ⟨g, rfl, hc⟩
  · exact made_nil w
  · exact made_zero w g hc

set_option maxRecDepth 20000 in
theorem ready_nob (v : Value) (w : World) (h : Nob v w) : Calls Try.prog 51 #[v] w fun e w' => e = .returned (.int .i64 6) ∧ w' = w := by
  have hM := made_nob v w h
  clear h
  go_enter Try.func51, Try.ntmps51
  go_wp2_with fail
  refine hM.mono ?_
  rintro e w1 ⟨rfl, rfl⟩
  go_wp2_with fail
  go_ret
  exact ⟨rfl, rfl⟩

set_option maxRecDepth 20000 in
theorem file_nob (v : Value) (w : World) (h : Nob v w) (i : Int) : Calls Try.prog 37 #[v, .int .i64 i] w fun e w' => e = .returned (.tuple #[.pointer none, .int .i64 6]) ∧ w' = w := by
  have hR := ready_nob v w h
  clear h
  go_enter Try.func37, Try.ntmps37
  go_wp2_with fail
  refine hR.mono ?_
  rintro e w1 ⟨rfl, rfl⟩
  go_wp2_with fail
  go_ret2
  exact ⟨rfl, rfl⟩

set_option maxRecDepth 20000 in
theorem Read_nob (v : Value) (w : World) (h : Nob v w) (i : Int) : Calls Try.prog 46 #[v, .int .i64 i] w fun e w' => e = .returned (.tuple #[.slice none 0 0, .int .i64 6]) ∧ w' = w := by
  have hF := file_nob v w h i
  clear h
  go_enter Try.func46, Try.ntmps46
  go_wp2_with fail
  refine hF.mono ?_
  rintro e w1 ⟨rfl, rfl⟩
  go_wp2_with fail
  go_ret2
  exact ⟨rfl, rfl⟩

set_option maxRecDepth 20000 in
set_option maxHeartbeats 2000000 in
theorem TOpen_no (v : Option Addr) (w : World) (h : Nob (.pointer v) w) : Calls Try.prog 13 #[.pointer v] w fun e w' => e = .returned (.tuple #[.pointer none, .int .i64 6]) ∧ Below w.heap.size w w' := by
  have hba := below_alloc w (.cells #[.pointer v, .int .i64 1, .int .i64 0, .int .i64 0, .slice none 0 0, .slice none 0 0] 74)
  have hR := Read_nob (.pointer v) _ (h.below hba) 0
  clear h
  go_enter Try.func13, Try.ntmps13
  go_wp2_with fail
  go_loopw [15] (fun ix wr => ix = .int .i64 0 ∧ wr = w.alloc (.cells #[.pointer v, .int .i64 1, .int .i64 0, .int .i64 0, .slice none 0 0, .slice none 0 0] 74)) (fun _ _ => 0)
  case atStart => exact ⟨rfl, rfl⟩
  case round =>
    obtain ⟨rfl, rfl⟩ := hrel
    go_wp2_with fail
    refine hR.mono ?_
    rintro e w1 ⟨rfl, hw1⟩
    subst hw1
    clear hR
    go_wp2_with fail
    go_ret2
    exact ⟨rfl, hba⟩

end Go.Proofs.Ytpjhadaiodnnaaa.M
