/-
  Own text: the walk of the statement 'RouteTries'.
-/
import Derived.Test.YtdjeafaaclhpkaaZRTries
namespace Go.Proofs.Ytdjeafaaclhpkaa.M
open Go.ChangeShapes Go.WideShapes Go.ChangeAt Go.RowKit

theorem Tries_both (e : Int) (n : Nat) (ms : List Mb) (a0 a1 a2 a3 a4 a5 a6 a7 a8 st many : Int) (wri : Bool) (_hl : ms.length = n) (hn : n ≤ 5864062014805) : ∃ (m : Nat) (l : List Int) (E : Int), m ≤ 24 ∧ (E = 0 → many = (m : Int)) ∧
    (∀ (p : Option Addr) (c : Nat) (w : World), RdM w p n c ms → Calls Try.prog 23 #[.agg #[.int .i64 e, .slice p n c], .agg #[.int .i64 a0, .int .i64 a1, .int .i64 a2, .int .i64 a3, .int .i64 a4, .int .i64 a5, .int .i64 a6, .int .i64 a7, .int .i64 a8], .int .i64 st, .bool wri, .int .i64 many] w fun r w' => ∃ q d, r = .returned (.tuple #[.slice q m d, .int .i64 E]) ∧ Rd .i64 w' q m d l ∧ Below w.heap.size w w') ∧
    (∀ (p : Option Addr) (c : Nat) (w : World), RdM w p n c ms → Calls Try.prog 24 #[.agg #[.int .i64 e, .slice p n c], .agg #[.int .i64 a0, .int .i64 a1, .int .i64 a2, .int .i64 a3, .int .i64 a4, .int .i64 a5, .int .i64 a6, .int .i64 a7, .int .i64 a8], .int .i64 st, .bool wri, .int .i64 many] w fun r w' => ∃ q d, r = .returned (.tuple #[.slice q m d, .int .i64 E]) ∧ Rd .i64 w' q m d l ∧ Below w.heap.size w w') := by
  by_cases h : mayR e ms [a0, a1, a2, a3, a4, a5, a6, a7, a8] st = 0
  · obtain ⟨hk, hw, i0, hi0, rfl⟩ := may_zero h
    by_cases hm : many < 0 ∨ 24 < many
    · refine ⟨0, [], 1, by decide, (fun h => by cases h), fun p c w hr => ?_, fun p c w hr => ?_⟩
      · exact (Tries_arg e p n c ms a0 a1 a2 a3 a4 a5 a6 a7 a8 i0 hi0 hk hw many wri hm w hr hn).mono fun r w' ⟨h1, h2⟩ => ⟨none, 0, h1, Rd.empty _ _ _ _ fun _ => rfl, h2⟩
      · exact (rTries_arg e p n c ms a0 a1 a2 a3 a4 a5 a6 a7 a8 i0 hi0 hk hw many wri hm w hr hn).mono fun r w' ⟨h1, h2⟩ => ⟨none, 0, h1, Rd.empty _ _ _ _ fun _ => rfl, h2⟩
    · obtain ⟨T, rfl⟩ := Int.eq_ofNat_of_zero_le (show 0 ≤ many by omega)
      exact ⟨T, _, 0, by omega, fun _ => rfl, fun p c w hr => Tries_ok e p n c ms a0 a1 a2 a3 a4 a5 a6 a7 a8 i0 hi0 hk hw wri T (by omega) w hr hn, fun p c w hr => rTries_ok e p n c ms a0 a1 a2 a3 a4 a5 a6 a7 a8 i0 hi0 hk hw wri T (by omega) w hr hn⟩
  · refine ⟨0, [], _, by decide, fun h0 => absurd h0 h, fun p c w hr => ?_, fun p c w hr => ?_⟩
    · exact (Tries_no e p n c ms a0 a1 a2 a3 a4 a5 a6 a7 a8 st _ many wri rfl h w hr hn).mono fun r w' ⟨h1, h2⟩ => ⟨none, 0, h1, Rd.empty _ _ _ _ fun _ => rfl, h2⟩
    · exact (rTries_no e p n c ms a0 a1 a2 a3 a4 a5 a6 a7 a8 st _ many wri rfl h w hr hn).mono fun r w' ⟨h1, h2⟩ => ⟨none, 0, h1, Rd.empty _ _ _ _ fun _ => rfl, h2⟩

set_option maxRecDepth 20000 in
set_option maxHeartbeats 2000000 in
theorem walk_RouteTries (w : World) (e : Int) (p : Option Addr) (n c : Nat) (ms : List Mb) (hr : RdM w p n c ms) (hn : n ≤ 5864062014805) (a0 a1 a2 a3 a4 a5 a6 a7 a8 st : Int) (wri : Bool) (many : Int) :
    Calls Try.prog 6 #[.agg #[.int .i64 e, .slice p n c], .agg #[.int .i64 a0, .int .i64 a1, .int .i64 a2, .int .i64 a3, .int .i64 a4, .int .i64 a5, .int .i64 a6, .int .i64 a7, .int .i64 a8], .int .i64 st, .bool wri, .int .i64 many] w fun r w' => r = .returned (.bool true) ∧ Below w.heap.size w w' := by
  have hb0 : Below w.heap.size w ((w.alloc (.cells #[.int .i64 e, .slice p n c] 33)).alloc (.cells #[.int .i64 a0, .int .i64 a1, .int .i64 a2, .int .i64 a3, .int .i64 a4, .int .i64 a5, .int .i64 a6, .int .i64 a7, .int .i64 a8] 24)) := ((Below.refl _ _).alloc (Nat.le_refl _) _).alloc (by simp) _
  have hA : ArrI 24 .i64 ((w.alloc (.cells #[.int .i64 e, .slice p n c] 33)).alloc (.cells #[.int .i64 a0, .int .i64 a1, .int .i64 a2, .int .i64 a3, .int .i64 a4, .int .i64 a5, .int .i64 a6, .int .i64 a7, .int .i64 a8] 24)) (w.heap.size + 1) [a0, a1, a2, a3, a4, a5, a6, a7, a8] := new_at (by simp) (nine_cells (t := 24) (w.alloc (.cells #[.int .i64 e, .slice p n c] 33)) a0 a1 a2 a3 a4 a5 a6 a7 a8)
  have hK : At 33 ((w.alloc (.cells #[.int .i64 e, .slice p n c] 33)).alloc (.cells #[.int .i64 a0, .int .i64 a1, .int .i64 a2, .int .i64 a3, .int .i64 a4, .int .i64 a5, .int .i64 a6, .int .i64 a7, .int .i64 a8] 24)) w.heap.size #[.int .i64 e, .slice p n c] := (At.new 33 w #[.int .i64 e, .slice p n c]).alloc _
  have hl := hr.len
  have hr0 := hr.below hb0
  have hW := fun W => awake_any W
  obtain ⟨m, l, E, hm24, hE, h1, h2⟩ := Tries_both e n ms a0 a1 a2 a3 a4 a5 a6 a7 a8 st many wri hl hn
  by_cases hnm : 60 < n
  · have hni : (60 : Int) < (n : Int) := by omega
    clear hr hr0 h1 h2 hA hK
    go_enter Try.func6, Try.ntmps6
    go_wp2_with fail
    refine (hW _).mono ?_
    rintro r w1 ⟨rfl, hb1⟩
    go_wp2_with fail
    go_ret
    exact ⟨rfl, hb0.trans (hb1.mono hb0.size)⟩
  have hni : ¬ (60 : Int) < (n : Int) := by omega
  by_cases hE0 : E = 0
  · have hmm := hE hE0
    subst hE0 hmm
    clear hE
    have g1 := h1 p c _ hr0
    clear hr h1
    go_enter Try.func6, Try.ntmps6
    go_wp2_with fail
    refine g1.mono ?_
    rintro r w1 ⟨q1, d1, rfl, hr1, hb1⟩
    have g2 := h2 p c _ (hr0.below hb1)
    have hbb := hb0.trans (hb1.mono hb0.size)
    obtain ⟨k0, k1⟩ := (hK.below hb1).two
    obtain ⟨c0, c1, c2, c3, c4, c5, c6, c7, c8⟩ := nine (hA.below hb1)
    clear g1 h2 hb1 hb0 hr0 hA hK
    go_wp2_with fail
    refine g2.mono ?_
    rintro r w2 ⟨q2, d2, rfl, hr2, hb2⟩
    have hbc := hbb.trans (hb2.mono hbb.size)
    replace hr1 := hr1.below hb2
    have g3 := equalI_same q1 q2 _ d1 d2 l _ hr1 hr2 (by omega)
    clear g2 hb2 hbb k0 k1 c0 c1 c2 c3 c4 c5 c6 c7 c8 hr1 hr2
    go_wp2_with fail
    refine g3.mono ?_
    rintro r w3 ⟨rfl, hb3⟩
    have hbd := hbc.trans (hb3.mono hbc.size)
    clear g3 hb3 hbc
    go_wp2_with fail
    refine (hW _).mono ?_
    rintro r w4 ⟨rfl, hb4⟩
    go_wp2_with fail
    go_ret
    exact ⟨rfl, hbd.trans (hb4.mono hbd.size)⟩
  · have hEb : (E != 0) = true := by simp [hE0]
    have hEe : (E == E) = true := by simp
    clear hE hE0
    have g1 := h1 p c _ hr0
    clear hr h1
    go_enter Try.func6, Try.ntmps6
    go_wp2_with fail
    refine g1.mono ?_
    rintro r w1 ⟨q1, d1, rfl, hr1, hb1⟩
    have g2 := h2 p c _ (hr0.below hb1)
    have hbb := hb0.trans (hb1.mono hb0.size)
    obtain ⟨k0, k1⟩ := (hK.below hb1).two
    obtain ⟨c0, c1, c2, c3, c4, c5, c6, c7, c8⟩ := nine (hA.below hb1)
    clear g1 h2 hb1 hb0 hr0 hA hK
    go_wp2_with fail
    refine g2.mono ?_
    rintro r w2 ⟨q2, d2, rfl, hr2, hb2⟩
    have hbc := hbb.trans (hb2.mono hbb.size)
    replace hr1 := hr1.below hb2
    have g3 := equalI_same q1 q2 _ d1 d2 l _ hr1 hr2 (by omega)
    clear g2 hb2 hbb k0 k1 c0 c1 c2 c3 c4 c5 c6 c7 c8 hr1 hr2
    go_wp2_with fail
    refine g3.mono ?_
    rintro r w3 ⟨rfl, hb3⟩
    have hbd := hbc.trans (hb3.mono hbc.size)
    clear g3 hb3 hbc
    go_wp2_with fail
    refine (hW _).mono ?_
    rintro r w4 ⟨rfl, hb4⟩
    go_wp2_with fail
    go_ret
    exact ⟨rfl, hbd.trans (hb4.mono hbd.size)⟩

end Go.Proofs.Ytdjeafaaclhpkaa.M
