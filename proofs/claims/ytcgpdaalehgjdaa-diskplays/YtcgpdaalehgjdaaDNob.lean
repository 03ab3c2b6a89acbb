/-
  Own text: contracts of the calls on a disk that no call made.
-/
import Derived.Test.YtcgpdaalehgjdaaDAwake
namespace Go.Proofs.Ytcgpdaalehgjdaa.M
open Go.ChangeShapes Go.WideShapes Go.ChangeAt Go.RowKit

/-- A disk that no call made: none, or one without room. -/
def Nob (v : Value) (w : World) : Prop := v = .pointer none ∨ ∃ g, v = .pointer (some ⟨g, 0, none⟩) ∧ w.cell? ⟨g, 0, none⟩ = some (.int .i64 0)

theorem Nob.below {v : Value} {w w' : World} (h : Nob v w) (hb : Below w.heap.size w w') : Nob v w' := by
  rcases h with h | ⟨g, h, hc⟩
  · exact Or.inl h
  · exact Or.inr ⟨g, h, by rw [hb.cell (p := ⟨g, 0, none⟩) (World.block_lt_of_cell? _ _ hc)]; exact hc⟩

theorem made_nob (v : Value) (w : World) (h : Nob v w) : Calls Try.prog 39 #[v] w fun e w' => e = .returned (.bool false) ∧ w' = w := by
  rcases h with rfl | ⟨g, rfl, hc⟩
  · exact made_nil w
  · exact made_zero w g hc

set_option maxRecDepth 20000 in
theorem ready_nob (v : Value) (w : World) (h : Nob v w) : Calls Try.prog 46 #[v] w fun e w' => e = .returned (.int .i64 6) ∧ w' = w := by
  have hM := made_nob v w h
  clear h
  go_enter Try.func46, Try.ntmps46
  go_wp2_with fail
  refine hM.mono ?_
  rintro e w1 ⟨rfl, rfl⟩
  go_wp2_with fail
  go_ret
  exact ⟨rfl, rfl⟩

set_option maxRecDepth 20000 in
theorem file_nob (v : Value) (w : World) (h : Nob v w) (i : Int) : Calls Try.prog 40 #[v, .int .i64 i] w fun e w' => e = .returned (.tuple #[.pointer none, .int .i64 6]) ∧ w' = w := by
  have hR := ready_nob v w h
  clear h
  go_enter Try.func40, Try.ntmps40
  go_wp2_with fail
  refine hR.mono ?_
  rintro e w1 ⟨rfl, rfl⟩
  go_wp2_with fail
  go_ret2
  exact ⟨rfl, rfl⟩

set_option maxRecDepth 20000 in
theorem Append_nob (v : Value) (w : World) (h : Nob v w) (i : Int) (q : Option Addr) (l c : Nat) : Calls Try.prog 30 #[v, .int .i64 i, .slice q l c] w fun e w' => e = .returned (.int .i64 6) ∧ Below w.heap.size w w' := by
  have hb1 : Below w.heap.size w (w.alloc (.cells #[.slice q l c] 32)) := (Below.refl _ _).alloc (Nat.le_refl _) _
  have hF := file_nob v _ (h.below hb1) i
  have hb2 : Below w.heap.size w ((w.alloc (.cells #[.slice q l c] 32)).alloc (.cells #[.pointer none] 77)) := hb1.alloc (by simp) _
  clear h hb1
  go_enter Try.func30, Try.ntmps30
  go_wp2_with fail
  refine hF.mono ?_
  rintro e w1 ⟨rfl, rfl⟩
  go_wp2_with fail
  go_ret
  exact ⟨rfl, hb2⟩

set_option maxRecDepth 20000 in
theorem Sync_nob (v : Value) (w : World) (h : Nob v w) (i : Int) : Calls Try.prog 24 #[v, .int .i64 i] w fun e w' => e = .returned (.int .i64 6) ∧ Below w.heap.size w w' := by
  have hF := file_nob v w h i
  have hb : Below w.heap.size w (w.alloc (.cells #[.pointer none] 77)) := (Below.refl _ _).alloc (Nat.le_refl _) _
  clear h
  go_enter Try.func24, Try.ntmps24
  go_wp2_with fail
  refine hF.mono ?_
  rintro e w1 ⟨rfl, rfl⟩
  go_wp2_with fail
  go_ret
  exact ⟨rfl, hb⟩

set_option maxRecDepth 20000 in
theorem Clear_nob (v : Value) (w : World) (h : Nob v w) (i : Int) : Calls Try.prog 33 #[v, .int .i64 i] w fun e w' => e = .returned (.int .i64 6) ∧ Below w.heap.size w w' := by
  have hF := file_nob v w h i
  have hb : Below w.heap.size w (w.alloc (.cells #[.pointer none] 77)) := (Below.refl _ _).alloc (Nat.le_refl _) _
  clear h
  go_enter Try.func33, Try.ntmps33
  go_wp2_with fail
  refine hF.mono ?_
  rintro e w1 ⟨rfl, rfl⟩
  go_wp2_with fail
  go_ret
  exact ⟨rfl, hb⟩

set_option maxRecDepth 20000 in
theorem Read_nob (v : Value) (w : World) (h : Nob v w) (i : Int) : Calls Try.prog 19 #[v, .int .i64 i] w fun e w' => e = .returned (.tuple #[.slice none 0 0, .int .i64 6]) ∧ w' = w := by
  have hF := file_nob v w h i
  clear h
  go_enter Try.func19, Try.ntmps19
  go_wp2_with fail
  refine hF.mono ?_
  rintro e w1 ⟨rfl, rfl⟩
  go_wp2_with fail
  go_ret2
  exact ⟨rfl, rfl⟩

set_option maxRecDepth 20000 in
theorem Crash_nob (v : Value) (w : World) (h : Nob v w) (q : Option Addr) (l c : Nat) : Calls Try.prog 25 #[v, .slice q l c] w fun e w' => e = .returned (.int .i64 6) ∧ w' = w := by
  have hF := ready_nob v w h
  clear h
  go_enter Try.func25, Try.ntmps25
  go_wp2_with fail
  refine hF.mono ?_
  rintro e w1 ⟨rfl, rfl⟩
  go_wp2_with fail
  go_ret
  exact ⟨rfl, rfl⟩

set_option maxRecDepth 20000 in
theorem Arm_nob (v : Value) (w : World) (h : Nob v w) (n : Int) (q : Option Addr) (l c : Nat) : Calls Try.prog 29 #[v, .int .i64 n, .slice q l c] w fun e w' => e = .returned (.int .i64 6) ∧ w' = w := by
  have hF := ready_nob v w h
  clear h
  go_enter Try.func29, Try.ntmps29
  go_wp2_with fail
  refine hF.mono ?_
  rintro e w1 ⟨rfl, rfl⟩
  go_wp2_with fail
  go_ret
  exact ⟨rfl, rfl⟩

set_option maxRecDepth 20000 in
theorem Start_nob (v : Value) (w : World) (h : Nob v w) : Calls Try.prog 23 #[v] w fun e w' => e = .returned (.int .i64 6) ∧ w' = w := by
  have hF := made_nob v w h
  clear h
  go_enter Try.func23, Try.ntmps23
  go_wp2_with fail
  refine hF.mono ?_
  rintro e w1 ⟨rfl, rfl⟩
  go_wp2_with fail
  go_ret
  exact ⟨rfl, rfl⟩

set_option maxRecDepth 20000 in
theorem Used_nob (v : Value) (w : World) (h : Nob v w) : Calls Try.prog 17 #[v] w fun e w' => e = .returned (.int .i64 0) ∧ w' = w := by
  have hF := made_nob v w h
  clear h
  go_enter Try.func17, Try.ntmps17
  go_wp2_with fail
  refine hF.mono ?_
  rintro e w1 ⟨rfl, rfl⟩
  go_wp2_with fail
  go_ret
  exact ⟨rfl, rfl⟩

set_option maxRecDepth 20000 in
theorem Clone_nob (v : Value) (w : World) (h : Nob v w) : Calls Try.prog 28 #[v] w fun e w' => e = .returned (.pointer none) ∧ w' = w := by
  have hF := made_nob v w h
  clear h
  go_enter Try.func28, Try.ntmps28
  go_wp2_with fail
  refine hF.mono ?_
  rintro e w1 ⟨rfl, rfl⟩
  go_wp2_with fail
  go_ret
  exact ⟨rfl, rfl⟩

end Go.Proofs.Ytcgpdaalehgjdaa.M
