/-
  Own text: the walk of the law LayoutSets.
-/
import Derived.Test.YtnhdfojbffaifaaYRefS
namespace Go.Proofs.Ytnhdfojbffaifaa.M
open Go.ChangeShapes Go.WideShapes Go.ChangeAt Go.RowKit

set_option maxRecDepth 20000 in
set_option maxHeartbeats 2000000 in
theorem walk_LayoutSets (w : World) (e : Int) (p : Option Addr) (n c : Nat) (ms : List Mb) (hr : RdM w p n c ms) :
    Calls Try.prog 5 #[.agg #[.int .i64 e, .slice p n c]] w fun r w' => r = .returned (.bool true) ∧ Below w.heap.size w w' := by
  have hb0 : Below w.heap.size w (w.alloc (.cells #[.int .i64 e, .slice p n c] 24)) := (Below.refl _ _).alloc (Nat.le_refl _) _
  have a0 : (w.alloc (.cells #[.int .i64 e, .slice p n c] 24)).cell? ⟨w.heap.size, 0, none⟩ = some (.int .i64 e) := by simp
  have a1 : (w.alloc (.cells #[.int .i64 e, .slice p n c] 24)).cell? ⟨w.heap.size, 1, none⟩ = some (.slice p n c) := by simp
  by_cases hn : 60 < n
  · have hni : (60 : Int) < (n : Int) := by omega
    have hA := fun W => awake_any W
    clear hr
    go_enter Try.func5, Try.ntmps5
    go_wp2_with fail
    refine (hA _).mono ?_
    rintro r w1 ⟨rfl, hb1⟩
    go_wp2_with fail
    go_ret
    exact ⟨rfl, hb0.trans (hb1.mono hb0.size)⟩
  · have hni : ¬ (60 : Int) < (n : Int) := by omega
    have hr0 := hr.below hb0
    go_enter Try.func5, Try.ntmps5
    go_wp2_with fail
    generalize (w.alloc (.cells #[.int .i64 e, .slice p n c] 24)) = w0 at *
    have hrW := fun d os => hr0.below (below_regrown w0 d os)
    have k0 := cell_regrown a0
    have k1 := cell_regrown a1
    have c1 := fun d os => Calls.regrown_of (Nodes_any e p n c ms _ (hrW d os) (by omega))
    have c2 := fun d os => Calls.regrown_of (rSet_any false e p n c ms _ (hrW d os) (by omega))
    have c3 := fun d os => Calls.regrown_of (Whole_any e p n c ms _ (hrW d os) (by omega))
    have c4 := fun d os => Calls.regrown_of (rSet_any true e p n c ms _ (hrW d os) (by omega))
    rw [sum_set false (fun _ => true) (fun _ => rfl) ms] at c2
    rw [sum_set true (fun m => !m.f) (fun _ => rfl) ms] at c4
    have c11 := fun d os => Calls.regrown_of (awake_any (Sort.grow (redrawn w0 d) os))
    generalize thN (fun _ => true) 0 ms = z1 at *
    generalize thN (fun m => !m.f) 0 ms = z2 at *
    clear hrW hr hr0
    refine wp_region_quiet_below (by kernel_rfl) (by kernel_rfl) ?_
    repeat (quiet_step (first | (go_at_call 22; exact c1 _ _) | (go_at_call 23; first | with_reducible exact c2 _ _ | with_reducible exact c4 _ _) | (go_at_call 24; exact c3 _ _) | (go_at_call 9; exact c11 _ _)))
    refine wpQuiet_nil ?_
    intro _ hw'
    obtain ⟨⟨dq, osq⟩, hw''⟩ := hw'
    subst hw''
    have hbq := below_regrown w0 dq osq
    go_wp2_with fail
    go_ret
    exact ⟨rfl, hb0.trans (hbq.mono hb0.size)⟩

end Go.Proofs.Ytnhdfojbffaifaa.M
