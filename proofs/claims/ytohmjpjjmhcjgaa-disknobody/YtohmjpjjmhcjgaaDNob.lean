/-
  Own text: contracts of the calls on a disk that no call made.
-/
import Derived.Test.YtohmjpjjmhcjgaaDAwake
namespace Go.Proofs.Ytohmjpjjmhcjgaa.M
open Go.ChangeShapes Go.WideShapes Go.ChangeAt Go.RowKit

/-- A disk that no call made: none, or one without room. -/
def Nob (v : Value) (w : World) : Prop := v = .pointer none ∨ ∃ g, v = .pointer (some ⟨g, 0, none⟩) ∧ w.cell? ⟨g, 0, none⟩ = some (.int .i64 0)

theorem Nob.below {v : Value} {w w' : World} (h : Nob v w) (hb : Below w.heap.size w w') : Nob v w' := by
  rcases h with h | ⟨g, h, hc⟩
  · exact Or.inl h
  · exact Or.inr ⟨g, h, by rw [hb.cell (p := ⟨g, 0, none⟩) (World.block_lt_of_cell? _ _ hc)]; exact hc⟩

theorem made_nob (v : Value) (w : World) (h : Nob v w) : Calls Try.prog 19 #[v] w fun e w' => e = .returned (.bool false) ∧ w' = w := by
  rcases h with rfl | ⟨g, rfl, hc⟩
  · exact made_nil w
  · exact made_zero w g hc

set_option maxRecDepth 20000 in
theorem ready_nob (v : Value) (w : World) (h : Nob v w) : Calls Try.prog 27 #[v] w fun e w' => e = .returned (.int .i64 6) ∧ w' = w := by
  have hM := made_nob v w h
  clear h
  go_enter Try.func27, Try.ntmps27
  go_wp2_with fail
  refine hM.mono ?_
  rintro e w1 ⟨rfl, rfl⟩
  go_wp2_with fail
  go_ret
  exact ⟨rfl, rfl⟩

set_option maxRecDepth 20000 in
theorem file_nob (v : Value) (w : World) (h : Nob v w) (i : Int) : Calls Try.prog 16 #[v, .int .i64 i] w fun e w' => e = .returned (.tuple #[.pointer none, .int .i64 6]) ∧ w' = w := by
  have hR := ready_nob v w h
  clear h
  go_enter Try.func16, Try.ntmps16
  go_wp2_with fail
  refine hR.mono ?_
  rintro e w1 ⟨rfl, rfl⟩
  go_wp2_with fail
  go_ret2
  exact ⟨rfl, rfl⟩

set_option maxRecDepth 20000 in
theorem Append_nob (v : Value) (w : World) (h : Nob v w) (i : Int) (q : Option Addr) (l c : Nat) : Calls Try.prog 11 #[v, .int .i64 i, .slice q l c] w fun e w' => e = .returned (.int .i64 6) ∧ Below w.heap.size w w' := by
  have hb1 : Below w.heap.size w (w.alloc (.cells #[.slice q l c] 22)) := (Below.refl _ _).alloc (Nat.le_refl _) _
  have hF := file_nob v _ (h.below hb1) i
  have hb2 : Below w.heap.size w ((w.alloc (.cells #[.slice q l c] 22)).alloc (.cells #[.pointer none] 53)) := hb1.alloc (by simp) _
  clear h hb1
  go_enter Try.func11, Try.ntmps11
  go_wp2_with fail
  refine hF.mono ?_
  rintro e w1 ⟨rfl, rfl⟩
  go_wp2_with fail
  go_ret
  exact ⟨rfl, hb2⟩

set_option maxRecDepth 20000 in
theorem Sync_nob (v : Value) (w : World) (h : Nob v w) (i : Int) : Calls Try.prog 12 #[v, .int .i64 i] w fun e w' => e = .returned (.int .i64 6) ∧ Below w.heap.size w w' := by
  have hF := file_nob v w h i
  have hb : Below w.heap.size w (w.alloc (.cells #[.pointer none] 53)) := (Below.refl _ _).alloc (Nat.le_refl _) _
  clear h
  go_enter Try.func12, Try.ntmps12
  go_wp2_with fail
  refine hF.mono ?_
  rintro e w1 ⟨rfl, rfl⟩
  go_wp2_with fail
  go_ret
  exact ⟨rfl, hb⟩

set_option maxRecDepth 20000 in
theorem Clear_nob (v : Value) (w : World) (h : Nob v w) (i : Int) : Calls Try.prog 18 #[v, .int .i64 i] w fun e w' => e = .returned (.int .i64 6) ∧ Below w.heap.size w w' := by
  have hF := file_nob v w h i
  have hb : Below w.heap.size w (w.alloc (.cells #[.pointer none] 53)) := (Below.refl _ _).alloc (Nat.le_refl _) _
  clear h
  go_enter Try.func18, Try.ntmps18
  go_wp2_with fail
  refine hF.mono ?_
  rintro e w1 ⟨rfl, rfl⟩
  go_wp2_with fail
  go_ret
  exact ⟨rfl, hb⟩

set_option maxRecDepth 20000 in
theorem Read_nob (v : Value) (w : World) (h : Nob v w) (i : Int) : Calls Try.prog 6 #[v, .int .i64 i] w fun e w' => e = .returned (.tuple #[.slice none 0 0, .int .i64 6]) ∧ w' = w := by
  have hF := file_nob v w h i
  clear h
  go_enter Try.func6, Try.ntmps6
  go_wp2_with fail
  refine hF.mono ?_
  rintro e w1 ⟨rfl, rfl⟩
  go_wp2_with fail
  go_ret2
  exact ⟨rfl, rfl⟩

set_option maxRecDepth 20000 in
theorem Crash_nob (v : Value) (w : World) (h : Nob v w) (q : Option Addr) (l c : Nat) : Calls Try.prog 13 #[v, .slice q l c] w fun e w' => e = .returned (.int .i64 6) ∧ w' = w := by
  have hF := ready_nob v w h
  clear h
  go_enter Try.func13, Try.ntmps13
  go_wp2_with fail
  refine hF.mono ?_
  rintro e w1 ⟨rfl, rfl⟩
  go_wp2_with fail
  go_ret
  exact ⟨rfl, rfl⟩

set_option maxRecDepth 20000 in
theorem Arm_nob (v : Value) (w : World) (h : Nob v w) (n : Int) (q : Option Addr) (l c : Nat) : Calls Try.prog 15 #[v, .int .i64 n, .slice q l c] w fun e w' => e = .returned (.int .i64 6) ∧ w' = w := by
  have hF := ready_nob v w h
  clear h
  go_enter Try.func15, Try.ntmps15
  go_wp2_with fail
  refine hF.mono ?_
  rintro e w1 ⟨rfl, rfl⟩
  go_wp2_with fail
  go_ret
  exact ⟨rfl, rfl⟩

set_option maxRecDepth 20000 in
theorem Start_nob (v : Value) (w : World) (h : Nob v w) : Calls Try.prog 14 #[v] w fun e w' => e = .returned (.int .i64 6) ∧ w' = w := by
  have hF := made_nob v w h
  clear h
  go_enter Try.func14, Try.ntmps14
  go_wp2_with fail
  refine hF.mono ?_
  rintro e w1 ⟨rfl, rfl⟩
  go_wp2_with fail
  go_ret
  exact ⟨rfl, rfl⟩

set_option maxRecDepth 20000 in
theorem Used_nob (v : Value) (w : World) (h : Nob v w) : Calls Try.prog 8 #[v] w fun e w' => e = .returned (.int .i64 0) ∧ w' = w := by
  have hF := made_nob v w h
  clear h
  go_enter Try.func8, Try.ntmps8
  go_wp2_with fail
  refine hF.mono ?_
  rintro e w1 ⟨rfl, rfl⟩
  go_wp2_with fail
  go_ret
  exact ⟨rfl, rfl⟩

set_option maxRecDepth 20000 in
theorem Clone_nob (v : Value) (w : World) (h : Nob v w) : Calls Try.prog 9 #[v] w fun e w' => e = .returned (.pointer none) ∧ w' = w := by
  have hF := made_nob v w h
  clear h
  go_enter Try.func9, Try.ntmps9
  go_wp2_with fail
  refine hF.mono ?_
  rintro e w1 ⟨rfl, rfl⟩
  go_wp2_with fail
  go_ret
  exact ⟨rfl, rfl⟩

end Go.Proofs.Ytohmjpjjmhcjgaa.M
