/-
  Own text: the walk of the statement 'RouteChecks'.
-/
import Derived.Test.YtdjeafaaclhpkaaZEq
import Derived.Test.YtdjeafaaclhpkaaZAwake
namespace Go.Proofs.Ytdjeafaaclhpkaa.M
open Go.ChangeShapes Go.WideShapes Go.ChangeAt Go.RowKit

theorem Direct_both (a0 a1 a2 a3 a4 a5 a6 a7 a8 : Int) : ∃ d0 d1 d2 d3 d4 d5 d6 d7 d8 E : Int,
    (∀ w : World, Calls Try.prog 9 #[.agg #[.int .i64 a0, .int .i64 a1, .int .i64 a2, .int .i64 a3, .int .i64 a4, .int .i64 a5, .int .i64 a6, .int .i64 a7, .int .i64 a8]] w fun r w' => r = .returned (.tuple #[.agg #[.int .i64 d0, .int .i64 d1, .int .i64 d2, .int .i64 d3, .int .i64 d4, .int .i64 d5, .int .i64 d6, .int .i64 d7, .int .i64 d8], .int .i64 E]) ∧ Below w.heap.size w w') ∧
    (∀ w : World, Calls Try.prog 10 #[.agg #[.int .i64 a0, .int .i64 a1, .int .i64 a2, .int .i64 a3, .int .i64 a4, .int .i64 a5, .int .i64 a6, .int .i64 a7, .int .i64 a8]] w fun r w' => r = .returned (.tuple #[.agg #[.int .i64 d0, .int .i64 d1, .int .i64 d2, .int .i64 d3, .int .i64 d4, .int .i64 d5, .int .i64 d6, .int .i64 d7, .int .i64 d8], .int .i64 E]) ∧ Below w.heap.size w w') := by
  cases h : okW [a0, a1, a2, a3, a4, a5, a6, a7, a8] with
  | false => exact ⟨0, 0, 0, 0, 0, 0, 0, 0, 0, 1, fun w => Direct_no a0 a1 a2 a3 a4 a5 a6 a7 a8 w h, fun w => rDirect_no a0 a1 a2 a3 a4 a5 a6 a7 a8 w h⟩
  | true =>
    obtain ⟨x, y, z, hx, hy, hz, e⟩ := okW_shape (xs := [a0, a1, a2, a3, a4, a5, a6, a7, a8]) rfl h
    have h1 : rO 3 [a0, a1, a2, a3, a4, a5, a6, a7, a8] = dirs x y z := by rw [e]; exact rO_wy x y z hx.1 hy.1 hz.1
    have h2 : qI [a0, a1, a2, a3, a4, a5, a6, a7, a8] 3 [a0, a1, a2, a3, a4, a5, a6, a7, a8] = dirs x y z := by rw [e]; exact qI_wy x y z hx.1 hy.1 hz.1
    exact ⟨_, _, _, _, _, _, _, _, _, 0, fun w => Direct_ok a0 a1 a2 a3 a4 a5 a6 a7 a8 w h _ _ _ _ _ _ _ _ _ h1, fun w => rDirect_ok a0 a1 a2 a3 a4 a5 a6 a7 a8 w h _ _ _ _ _ _ _ _ _ h2⟩

set_option maxRecDepth 20000 in
set_option maxHeartbeats 2000000 in
theorem walk_RouteChecks (w : World) (a0 a1 a2 a3 a4 a5 a6 a7 a8 : Int) :
    Calls Try.prog 3 #[.agg #[.int .i64 a0, .int .i64 a1, .int .i64 a2, .int .i64 a3, .int .i64 a4, .int .i64 a5, .int .i64 a6, .int .i64 a7, .int .i64 a8]] w fun r w' => r = .returned (.bool true) ∧ Below w.heap.size w w' := by
  have hb0 : Below w.heap.size w (w.alloc (.cells #[.int .i64 a0, .int .i64 a1, .int .i64 a2, .int .i64 a3, .int .i64 a4, .int .i64 a5, .int .i64 a6, .int .i64 a7, .int .i64 a8] 24)) := (Below.refl _ _).alloc (Nat.le_refl _) _
  have hA : ArrI 24 .i64 (w.alloc (.cells #[.int .i64 a0, .int .i64 a1, .int .i64 a2, .int .i64 a3, .int .i64 a4, .int .i64 a5, .int .i64 a6, .int .i64 a7, .int .i64 a8] 24)) w.heap.size [a0, a1, a2, a3, a4, a5, a6, a7, a8] := nine_cells (t := 24) w a0 a1 a2 a3 a4 a5 a6 a7 a8
  obtain ⟨d0, d1, d2, d3, d4, d5, d6, d7, d8, E, h1, h2⟩ := Direct_both a0 a1 a2 a3 a4 a5 a6 a7 a8
  have g1 := h1 (w.alloc (.cells #[.int .i64 a0, .int .i64 a1, .int .i64 a2, .int .i64 a3, .int .i64 a4, .int .i64 a5, .int .i64 a6, .int .i64 a7, .int .i64 a8] 24))
  go_enter Try.func3, Try.ntmps3
  go_wp2_with fail
  refine g1.mono ?_
  rintro r w1 ⟨rfl, hb1⟩
  have hbb := hb0.trans (hb1.mono hb0.size)
  replace hA := (hA.below hb1).alloc (.cells #[.int .i64 d0, .int .i64 d1, .int .i64 d2, .int .i64 d3, .int .i64 d4, .int .i64 d5, .int .i64 d6, .int .i64 d7, .int .i64 d8] 24)
  have hD : ArrI 24 .i64 (w1.alloc (.cells #[.int .i64 d0, .int .i64 d1, .int .i64 d2, .int .i64 d3, .int .i64 d4, .int .i64 d5, .int .i64 d6, .int .i64 d7, .int .i64 d8] 24)) w1.heap.size [d0, d1, d2, d3, d4, d5, d6, d7, d8] := nine_cells (t := 24) w1 d0 d1 d2 d3 d4 d5 d6 d7 d8
  have hb2 := hbb.alloc hbb.size (.cells #[.int .i64 d0, .int .i64 d1, .int .i64 d2, .int .i64 d3, .int .i64 d4, .int .i64 d5, .int .i64 d6, .int .i64 d7, .int .i64 d8] 24)
  have g2 := h2 (w1.alloc (.cells #[.int .i64 d0, .int .i64 d1, .int .i64 d2, .int .i64 d3, .int .i64 d4, .int .i64 d5, .int .i64 d6, .int .i64 d7, .int .i64 d8] 24))
  obtain ⟨c0, c1, c2, c3, c4, c5, c6, c7, c8⟩ := nine hA
  clear h1 h2 g1 hb0 hb1 hbb
  go_wp2_with fail
  refine g2.mono ?_
  rintro r w2 ⟨rfl, hb3⟩
  have hbb := hb2.trans (hb3.mono hb2.size)
  replace hA := (hA.below hb3).alloc (.cells #[.int .i64 d0, .int .i64 d1, .int .i64 d2, .int .i64 d3, .int .i64 d4, .int .i64 d5, .int .i64 d6, .int .i64 d7, .int .i64 d8] 24)
  replace hD := (hD.below hb3).alloc (.cells #[.int .i64 d0, .int .i64 d1, .int .i64 d2, .int .i64 d3, .int .i64 d4, .int .i64 d5, .int .i64 d6, .int .i64 d7, .int .i64 d8] 24)
  have hF : ArrI 24 .i64 (w2.alloc (.cells #[.int .i64 d0, .int .i64 d1, .int .i64 d2, .int .i64 d3, .int .i64 d4, .int .i64 d5, .int .i64 d6, .int .i64 d7, .int .i64 d8] 24)) w2.heap.size [d0, d1, d2, d3, d4, d5, d6, d7, d8] := nine_cells (t := 24) w2 d0 d1 d2 d3 d4 d5 d6 d7 d8
  have hb4 := hbb.alloc hbb.size (.cells #[.int .i64 d0, .int .i64 d1, .int .i64 d2, .int .i64 d3, .int .i64 d4, .int .i64 d5, .int .i64 d6, .int .i64 d7, .int .i64 d8] 24)
  clear c0 c1 c2 c3 c4 c5 c6 c7 c8 g2 hb2 hb3 hbb
  go_wp2_with fail
  generalize (w2.alloc (.cells #[.int .i64 d0, .int .i64 d1, .int .i64 d2, .int .i64 d3, .int .i64 d4, .int .i64 d5, .int .i64 d6, .int .i64 d7, .int .i64 d8] 24)) = w0 at *
  generalize w2.heap.size = g2 at *
  generalize w1.heap.size = g1 at *
  obtain ⟨c0, c1, c2, c3, c4, c5, c6, c7, c8⟩ := nine hA
  obtain ⟨p0, p1, p2, p3, p4, p5, p6, p7, p8⟩ := nine hD
  obtain ⟨q0, q1, q2, q3, q4, q5, q6, q7, q8⟩ := nine hF
  have heq := fun W => eql_nine d0 d1 d2 d3 d4 d5 d6 d7 d8 W
  have heE : (E == E) = true := by simp
  have r1 := fun d os => Calls.regrown_of (Way_any a0 a1 a2 a3 a4 a5 a6 a7 a8 (Sort.grow (redrawn w0 d) os))
  have r2 := fun d os => Calls.regrown_of (rWay_any a0 a1 a2 a3 a4 a5 a6 a7 a8 (Sort.grow (redrawn w0 d) os))
  have c11 := fun d os => Calls.regrown_of (awake_any (Sort.grow (redrawn w0 d) os))
  unfold wayV at r1 r2
  generalize (if okW [a0, a1, a2, a3, a4, a5, a6, a7, a8] = true then (0 : Int) else 1) = z1 at *
  have hz1 : (z1 == z1) = true := by simp
  have c0 := cell_regrown c0
  have c1 := cell_regrown c1
  have c2 := cell_regrown c2
  have c3 := cell_regrown c3
  have c4 := cell_regrown c4
  have c5 := cell_regrown c5
  have c6 := cell_regrown c6
  have c7 := cell_regrown c7
  have c8 := cell_regrown c8
  have p0 := cell_regrown p0
  have p1 := cell_regrown p1
  have p2 := cell_regrown p2
  have p3 := cell_regrown p3
  have p4 := cell_regrown p4
  have p5 := cell_regrown p5
  have p6 := cell_regrown p6
  have p7 := cell_regrown p7
  have p8 := cell_regrown p8
  have q0 := cell_regrown q0
  have q1 := cell_regrown q1
  have q2 := cell_regrown q2
  have q3 := cell_regrown q3
  have q4 := cell_regrown q4
  have q5 := cell_regrown q5
  have q6 := cell_regrown q6
  have q7 := cell_regrown q7
  have q8 := cell_regrown q8
  clear hA hD hF
  refine wp_region_quiet_below (by kernel_rfl) (by kernel_rfl) ?_
  repeat (quiet_step (first | (go_at_call 11; exact r1 _ _) | (go_at_call 12; exact r2 _ _) | (go_at_call 13; exact c11 _ _)))
  refine wpQuiet_nil ?_
  intro _ hw'
  obtain ⟨⟨dq, osq⟩, hw''⟩ := hw'
  subst hw''
  have hbq := below_regrown w0 dq osq
  go_wp2_with fail
  go_ret
  exact ⟨rfl, hb4.trans (hbq.mono hb4.size)⟩

end Go.Proofs.Ytdjeafaaclhpkaa.M
