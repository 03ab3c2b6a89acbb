/-
  Own text: the walk of the law LayoutChecks.
-/
import Derived.Test.YtnhdfojbffaifaaYRefP
namespace Go.Proofs.Ytnhdfojbffaifaa.M
open Go.ChangeShapes Go.WideShapes Go.ChangeAt Go.RowKit

set_option maxRecDepth 20000 in
set_option maxHeartbeats 2000000 in
theorem walk_LayoutChecks (w : World) (e : Int) (p : Option Addr) (n c : Nat) (ms : List Mb) (hr : RdM w p n c ms) (hn : n ≤ 5864062014805) (e2 : Int) (q : Option Addr) (m d : Nat) (ns : List Mb) (hs : RdM w q m d ns) (hm : m ≤ 5864062014805) :
    Calls Try.prog 3 #[.agg #[.int .i64 e, .slice p n c], .agg #[.int .i64 e2, .slice q m d]] w fun r w' => r = .returned (.bool true) ∧ Below w.heap.size w w' := by
  have hb0 : Below w.heap.size w ((w.alloc (.cells #[.int .i64 e, .slice p n c] 24)).alloc (.cells #[.int .i64 e2, .slice q m d] 24)) := ((Below.refl _ _).alloc (Nat.le_refl _) _).alloc (by simp) _
  have a0 : ((w.alloc (.cells #[.int .i64 e, .slice p n c] 24)).alloc (.cells #[.int .i64 e2, .slice q m d] 24)).cell? ⟨w.heap.size, 0, none⟩ = some (.int .i64 e) := by simp
  have a1 : ((w.alloc (.cells #[.int .i64 e, .slice p n c] 24)).alloc (.cells #[.int .i64 e2, .slice q m d] 24)).cell? ⟨w.heap.size, 1, none⟩ = some (.slice p n c) := by simp
  have a2 : ((w.alloc (.cells #[.int .i64 e, .slice p n c] 24)).alloc (.cells #[.int .i64 e2, .slice q m d] 24)).cell? ⟨w.heap.size + 1, 0, none⟩ = some (.int .i64 e2) := by simp
  have a3 : ((w.alloc (.cells #[.int .i64 e, .slice p n c] 24)).alloc (.cells #[.int .i64 e2, .slice q m d] 24)).cell? ⟨w.heap.size + 1, 1, none⟩ = some (.slice q m d) := by simp
  have hwr : IntKind.i64.wrap ((n : Int) + (m : Int)) = (n : Int) + (m : Int) := by rw [IntKind.wrap_i64]; omega
  by_cases hnm : 60 < n + m
  · have hni : (60 : Int) < (n : Int) + (m : Int) := by omega
    have hA := fun W => awake_any W
    clear hr hs
    go_enter Try.func3, Try.ntmps3
    go_wp2_with fail
    refine (hA _).mono ?_
    rintro r w1 ⟨rfl, hb1⟩
    go_wp2_with fail
    go_ret
    exact ⟨rfl, hb0.trans (hb1.mono hb0.size)⟩
  · have hni : ¬ (60 : Int) < (n : Int) + (m : Int) := by omega
    have hr0 := hr.below hb0
    have hs0 := hs.below hb0
    go_enter Try.func3, Try.ntmps3
    go_wp2_with fail
    generalize ((w.alloc (.cells #[.int .i64 e, .slice p n c] 24)).alloc (.cells #[.int .i64 e2, .slice q m d] 24)) = w0 at *
    have hrW := fun d os => hr0.below (below_regrown w0 d os)
    have hsW := fun d os => hs0.below (below_regrown w0 d os)
    have k0 := cell_regrown a0
    have k1 := cell_regrown a1
    have k2 := cell_regrown a2
    have k3 := cell_regrown a3
    have c1 := fun d os => Calls.regrown_of (Check_any e p n c ms _ (hrW d os) hn)
    have c2 := fun d os => Calls.regrown_of (rCheck_any e p n c ms _ (hrW d os) hn)
    have c3 := fun d' os => Calls.regrown_of (Same_any e e2 p q n m c d ms ns _ (hrW d' os) (hsW d' os) hn hm)
    have c4 := fun d' os => Calls.regrown_of (rSame_any e e2 p q n m c d ms ns _ (hrW d' os) (hsW d' os) hn hm)
    have c5 := fun d' os => Calls.regrown_of (Same_any e e p p n n c c ms ms _ (hrW d' os) (hrW d' os) hn hn)
    have c11 := fun d os => Calls.regrown_of (awake_any (Sort.grow (redrawn w0 d) os))
    have e5 : (e == e && eqMs ms ms) = true := by simp [eqMs_self]
    rw [e5] at c5
    unfold chkV at c1 c2
    generalize (if chk e ms = true then (0 : Int) else 80) = z1 at *
    generalize (e == e2 && eqMs ms ns) = z2 at *
    clear hrW hr hr0 hsW hs hs0 e5
    refine wp_region_quiet_below (by kernel_rfl) (by kernel_rfl) ?_
    repeat (quiet_step (first | (go_at_call 10; exact c1 _ _) | (go_at_call 11; exact c2 _ _) | (go_at_call 12; first | with_reducible exact c3 _ _ | with_reducible exact c5 _ _) | (go_at_call 13; exact c4 _ _) | (go_at_call 9; exact c11 _ _)))
    refine wpQuiet_nil ?_
    intro _ hw'
    obtain ⟨⟨dq, osq⟩, hw''⟩ := hw'
    subst hw''
    have hbq := below_regrown w0 dq osq
    go_wp2_with fail
    go_ret
    exact ⟨rfl, hb0.trans (hbq.mono hb0.size)⟩

end Go.Proofs.Ytnhdfojbffaifaa.M
