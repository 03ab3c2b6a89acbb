/-
  Own text: the walk of the law LayoutPlaces.
-/
import Derived.Test.YtnhdfojbffaifaaYRefP
namespace Go.Proofs.Ytnhdfojbffaifaa.M
open Go.ChangeShapes Go.WideShapes Go.ChangeAt Go.RowKit

set_option maxRecDepth 20000 in
set_option maxHeartbeats 2000000 in
theorem walk_LayoutPlaces (w : World) (e : Int) (p : Option Addr) (n c : Nat) (ms : List Mb) (hr : RdM w p n c ms) (node : Int) :
    Calls Try.prog 4 #[.agg #[.int .i64 e, .slice p n c], .int .i64 node] w fun r w' => r = .returned (.bool true) ∧ Below w.heap.size w w' := by
  have hb0 : Below w.heap.size w (w.alloc (.cells #[.int .i64 e, .slice p n c] 24)) := (Below.refl _ _).alloc (Nat.le_refl _) _
  have a0 : (w.alloc (.cells #[.int .i64 e, .slice p n c] 24)).cell? ⟨w.heap.size, 0, none⟩ = some (.int .i64 e) := by simp
  have a1 : (w.alloc (.cells #[.int .i64 e, .slice p n c] 24)).cell? ⟨w.heap.size, 1, none⟩ = some (.slice p n c) := by simp
  by_cases hn : 60 < n
  · have hni : (60 : Int) < (n : Int) := by omega
    have hA := fun W => awake_any W
    clear hr
    go_enter Try.func4, Try.ntmps4
    go_wp2_with fail
    refine (hA _).mono ?_
    rintro r w1 ⟨rfl, hb1⟩
    go_wp2_with fail
    go_ret
    exact ⟨rfl, hb0.trans (hb1.mono hb0.size)⟩
  · have hni : ¬ (60 : Int) < (n : Int) := by omega
    have hr0 := hr.below hb0
    go_enter Try.func4, Try.ntmps4
    go_wp2_with fail
    generalize (w.alloc (.cells #[.int .i64 e, .slice p n c] 24)) = w0 at *
    have hrW := fun d os => hr0.below (below_regrown w0 d os)
    have k0 := cell_regrown a0
    have k1 := cell_regrown a1
    have c1 := fun d os => Calls.regrown_of (Place_any e p n c ms node _ (hrW d os) (by omega))
    have c2 := fun d os => Calls.regrown_of (rPlace_any e p n c ms node _ (hrW d os) (by omega))
    have c3 := fun d os => Calls.regrown_of (Next_any e p n c ms node _ (hrW d os) (by omega))
    have c4 := fun d os => Calls.regrown_of (rOff_any e p n c ms node 1 _ (hrW d os) (by omega) (by decide))
    have c5 := fun d os => Calls.regrown_of (Back_any e p n c ms node _ (hrW d os) (by omega))
    have c6 := fun d os => Calls.regrown_of (rOff_any e p n c ms node (-1) _ (hrW d os) (by omega) (by decide))
    have c7 := fun d os => Calls.regrown_of (Head_any e p n c ms _ (hrW d os) (by omega))
    have c8 := fun d os => Calls.regrown_of (rEnd0_any e p n c ms _ (hrW d os) (by omega))
    have c9 := fun d os => Calls.regrown_of (Tail_any e p n c ms _ (hrW d os) (by omega))
    have c10 := fun d os => Calls.regrown_of (rEnd1_any e p n c ms _ (hrW d os) (by omega))
    have c11 := fun d os => Calls.regrown_of (awake_any (Sort.grow (redrawn w0 d) os))
    generalize plc e ms node = z1 at *
    generalize offM e ms node 1 = z2 at *
    generalize offM e ms node (-1) = z3 at *
    generalize endM e ms 0 = z4 at *
    generalize endM e ms ((n : Int) - 1) = z5 at *
    clear hrW hr hr0
    refine wp_region_quiet_below (by kernel_rfl) (by kernel_rfl) ?_
    repeat (quiet_step (first | (go_at_call 14; exact c1 _ _) | (go_at_call 15; exact c2 _ _) | (go_at_call 16; exact c3 _ _) | (go_at_call 17; first | with_reducible exact c4 _ _ | with_reducible exact c6 _ _) | (go_at_call 18; exact c5 _ _) | (go_at_call 19; exact c7 _ _) | (go_at_call 20; first | with_reducible exact c8 _ _ | with_reducible exact c10 _ _) | (go_at_call 21; exact c9 _ _) | (go_at_call 9; exact c11 _ _)))
    refine wpQuiet_nil ?_
    intro _ hw'
    obtain ⟨⟨dq, osq⟩, hw''⟩ := hw'
    subst hw''
    have hbq := below_regrown w0 dq osq
    go_wp2_with fail
    go_ret
    exact ⟨rfl, hb0.trans (hbq.mono hb0.size)⟩

end Go.Proofs.Ytnhdfojbffaifaa.M
