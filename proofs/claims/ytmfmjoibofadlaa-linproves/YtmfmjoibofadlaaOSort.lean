/-
  Own text: at most one number is sorted as it is.
-/
import Derived.Test.YtmfmjoibofadlaaOFnd
namespace Go.Proofs.Ytmfmjoibofadlaa.M
open Go.ChangeShapes Go.WideShapes Go.ChangeAt Go.RowKit
set_option linter.unusedSimpArgs false

set_option maxRecDepth 20000 in
theorem len64_any (n : Nat) (hn : n ≤ 1) (w : World) : Calls Try.prog 70 #[.int .u64 (n : Int)] w fun e w' => ∃ y : Int, e = .returned (.int .i64 y) ∧ Below w.heap.size w w' := by
  obtain rfl | rfl : n = 0 ∨ n = 1 := by omega
  · go_enter Try.func70, Try.ntmps70
    go_wp2_with fail
    go_ret
    exact ⟨_, rfl, Below.refl _ _⟩
  · go_enter Try.func70, Try.ntmps70
    go_wp2_with fail
    go_ret
    exact ⟨_, rfl, Below.refl _ _⟩

set_option maxRecDepth 20000 in
theorem len_any (n : Nat) (hn : n ≤ 1) (w : World) : Calls Try.prog 53 #[.int .u64 (n : Int)] w fun e w' => ∃ y : Int, e = .returned (.int .i64 y) ∧ Below w.heap.size w w' := by
  have h := fun W => len64_any n hn W
  go_enter Try.func53, Try.ntmps53
  go_wp2_with fail
  refine (h _).mono ?_
  rintro e w1 ⟨y, rfl, hb⟩
  clear h
  go_wp2_with fail
  go_ret
  exact ⟨_, rfl, hb⟩

set_option maxRecDepth 20000 in
theorem ins1_any (p : Option Addr) (n c : Nat) (f : Value) (hn : n ≤ 1) (w : World) : Calls Try.prog 61 #[.slice p n c, .int .i64 0, .int .i64 (n : Int), f] w fun e w' => e = .returned (.tuple #[]) ∧ Below w.heap.size w w' := by
  have hn1 : ¬ (1 : Int) < (n : Int) := by omega
  go_enter Try.func61, Try.ntmps61
  go_wp2_with fail
  go_loopw [8] (fun vi wr => vi = .int .i64 1 ∧ wr = w) (fun _ _ => 0)
  case atStart => exact ⟨by first | rfl | go_num, rfl⟩
  case round =>
    obtain ⟨rfl, rfl⟩ := hrel
    go_wp2_with fail
    exact bodyPost_end (results_none rfl _ _ _) rfl ⟨rfl, Below.refl _ _⟩

set_option maxRecDepth 20000 in
theorem pdq1_any (p : Option Addr) (n c : Nat) (f : Value) (l : Int) (hn : n ≤ 1) (w : World) : Calls Try.prog 52 #[.slice p n c, .int .i64 0, .int .i64 (n : Int), .int .i64 l, f] w fun e w' => e = .returned (.tuple #[]) ∧ Below w.heap.size w w' := by
  have h := fun W => ins1_any p n c f hn W
  have hn1 : (n : Int) ≤ 12 := by omega
  go_enter Try.func52, Try.ntmps52
  go_wp2_with fail
  go_loopw [1, 2, 3, 10, 11] (fun v1 v2 v3 v10 v11 wr => v1 = .int .i64 0 ∧ v2 = .int .i64 (n : Int) ∧ v3 = .int .i64 l ∧ v10 = .bool true ∧ v11 = .bool true ∧ wr = w) (fun _ _ _ _ _ _ => 0)
  case atStart => exact ⟨rfl, rfl, rfl, rfl, rfl, rfl⟩
  case round =>
    obtain ⟨rfl, rfl, rfl, rfl, rfl, rfl⟩ := hrel
    go_wp2_with fail
    refine (h _).mono ?_
    rintro e w1 ⟨rfl, hb⟩
    go_wp2_with fail
    exact bodyPost_ret (results_none rfl _ _ _) rfl ⟨rfl, hb⟩

set_option maxRecDepth 20000 in
theorem sort1_any (p : Option Addr) (n c : Nat) (f : Value) (hn : n ≤ 1) (w : World) : Calls Try.prog 37 #[.slice p n c, f] w fun e w' => e = .returned (.tuple #[]) ∧ Below w.heap.size w w' := by
  have h1 := fun W => len_any n hn W
  have h2 := fun l W => pdq1_any p n c f l hn W
  go_enter Try.func37, Try.ntmps37
  go_wp2_with fail
  refine (h1 _).mono ?_
  rintro e w1 ⟨y, rfl, hb⟩
  go_wp2_with fail
  refine (h2 y _).mono ?_
  rintro e w2 ⟨rfl, hb2⟩
  have hbb := hb.trans (hb2.mono hb.size)
  clear h1 h2
  go_wp2_with fail
  exact bodyPost_end (results_none rfl _ _ _) rfl ⟨rfl, hbb⟩

end Go.Proofs.Ytmfmjoibofadlaa.M
