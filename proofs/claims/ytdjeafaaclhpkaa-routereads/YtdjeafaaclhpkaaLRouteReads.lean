/-
  Own text: the walk of the statement 'RouteReads'.
-/
import Derived.Test.YtdjeafaaclhpkaaZBoth
namespace Go.Proofs.Ytdjeafaaclhpkaa.M
open Go.ChangeShapes Go.WideShapes Go.ChangeAt Go.RowKit

set_option maxRecDepth 20000 in
set_option maxHeartbeats 2000000 in
theorem walk_RouteReads (w : World) (e : Int) (p : Option Addr) (n c : Nat) (ms : List Mb) (hr : RdM w p n c ms) (hn : n ≤ 5864062014805) (a0 a1 a2 a3 a4 a5 a6 a7 a8 st node : Int) (tail : Bool) (mm : Int) :
    Calls Try.prog 5 #[.agg #[.int .i64 e, .slice p n c], .agg #[.int .i64 a0, .int .i64 a1, .int .i64 a2, .int .i64 a3, .int .i64 a4, .int .i64 a5, .int .i64 a6, .int .i64 a7, .int .i64 a8], .int .i64 st, .int .i64 node, .bool tail, .int .i64 mm] w fun r w' => r = .returned (.bool true) ∧ Below w.heap.size w w' := by
  have hb0 : Below w.heap.size w ((w.alloc (.cells #[.int .i64 e, .slice p n c] 33)).alloc (.cells #[.int .i64 a0, .int .i64 a1, .int .i64 a2, .int .i64 a3, .int .i64 a4, .int .i64 a5, .int .i64 a6, .int .i64 a7, .int .i64 a8] 24)) := ((Below.refl _ _).alloc (Nat.le_refl _) _).alloc (by simp) _
  have hA : ArrI 24 .i64 ((w.alloc (.cells #[.int .i64 e, .slice p n c] 33)).alloc (.cells #[.int .i64 a0, .int .i64 a1, .int .i64 a2, .int .i64 a3, .int .i64 a4, .int .i64 a5, .int .i64 a6, .int .i64 a7, .int .i64 a8] 24)) (w.heap.size + 1) [a0, a1, a2, a3, a4, a5, a6, a7, a8] := new_at (by simp) (nine_cells (t := 24) (w.alloc (.cells #[.int .i64 e, .slice p n c] 33)) a0 a1 a2 a3 a4 a5 a6 a7 a8)
  have hK : At 33 ((w.alloc (.cells #[.int .i64 e, .slice p n c] 33)).alloc (.cells #[.int .i64 a0, .int .i64 a1, .int .i64 a2, .int .i64 a3, .int .i64 a4, .int .i64 a5, .int .i64 a6, .int .i64 a7, .int .i64 a8] 24)) w.heap.size #[.int .i64 e, .slice p n c] := (At.new 33 w #[.int .i64 e, .slice p n c]).alloc _
  have hl := hr.len
  have hr0 := hr.below hb0
  have hW := fun W => awake_any W
  obtain ⟨V, E, h1, h2⟩ := Read_both e n ms a0 a1 a2 a3 a4 a5 a6 a7 a8 st node mm tail hl hn
  by_cases hnm : 60 < n
  · have hni : (60 : Int) < (n : Int) := by omega
    clear hr hr0 h1 h2 hA hK
    go_enter Try.func5, Try.ntmps5
    go_wp2_with fail
    refine (hW _).mono ?_
    rintro r w1 ⟨rfl, hb1⟩
    go_wp2_with fail
    go_ret
    exact ⟨rfl, hb0.trans (hb1.mono hb0.size)⟩
  · have hni : ¬ (60 : Int) < (n : Int) := by omega
    have g1 := h1 p c _ hr0
    clear hr h1
    go_enter Try.func5, Try.ntmps5
    go_wp2_with fail
    refine g1.mono ?_
    rintro r w1 ⟨rfl, hb1⟩
    have g2 := h2 p c _ (hr0.below hb1)
    have hbb := hb0.trans (hb1.mono hb0.size)
    obtain ⟨k0, k1⟩ := (hK.below hb1).two
    obtain ⟨c0, c1, c2, c3, c4, c5, c6, c7, c8⟩ := nine (hA.below hb1)
    clear g1 h2 hb1 hb0 hr0 hA hK
    go_wp2_with fail
    refine g2.mono ?_
    rintro r w2 ⟨rfl, hb2⟩
    have hbc := hbb.trans (hb2.mono hbb.size)
    clear g2 hb2 hbb k0 k1 c0 c1 c2 c3 c4 c5 c6 c7 c8
    go_wp2_with fail
    refine (hW _).mono ?_
    rintro r w3 ⟨rfl, hb3⟩
    go_wp2_with fail
    go_ret
    exact ⟨rfl, hbc.trans (hb3.mono hbc.size)⟩

end Go.Proofs.Ytdjeafaaclhpkaa.M
