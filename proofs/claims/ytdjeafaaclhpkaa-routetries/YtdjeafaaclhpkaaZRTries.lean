/-
  Own text: contracts of the reference's Tries, and of both where nothing can be told.
-/
import Derived.Test.YtdjeafaaclhpkaaZTries
namespace Go.Proofs.Ytdjeafaaclhpkaa.M
open Go.ChangeShapes Go.WideShapes Go.ChangeAt Go.RowKit

/-- How long a slice is. -/
def slen : Value → Nat
  | .slice _ n _ => n
  | _ => 0

theorem whole_snoc (ms : List Mb) (k : Nat) (h : k < ms.length) : ((ms.take (k + 1)).filter fun m => !m.f).map (·.n) = ((ms.take k).filter fun m => !m.f).map (·.n) ++ (if (ms.getD k .z0).f = false then [(ms.getD k .z0).n] else []) := by
  rw [List.take_add_one, List.filter_append, List.map_append, List.getD_eq_getElem?_getD, List.getElem?_eq_getElem h]
  congr 1
  simp only [Option.toList_some, Option.getD_some, List.filter_cons, List.filter_nil]
  cases ms[k].f <;> simp

theorem whole_le (ms : List Mb) (k : Nat) : (((ms.take k).filter fun m => !m.f).map (·.n)).length ≤ ms.length := by
  rw [List.length_map]
  exact Nat.le_trans (List.length_filter_le _ _) (by rw [List.length_take]; omega)

set_option maxRecDepth 20000 in
set_option maxHeartbeats 2000000 in
theorem Tries_no (e : Int) (p : Option Addr) (n c : Nat) (ms : List Mb) (a0 a1 a2 a3 a4 a5 a6 a7 a8 : Int) (st ev many : Int) (wri : Bool) (hev : mayR e ms [a0, a1, a2, a3, a4, a5, a6, a7, a8] st = ev) (h0 : ev ≠ 0) (w : World) (hr : RdM w p n c ms) (hn : n ≤ 5864062014805) :
    Calls Try.prog 23 #[.agg #[.int .i64 e, .slice p n c], .agg #[.int .i64 a0, .int .i64 a1, .int .i64 a2, .int .i64 a3, .int .i64 a4, .int .i64 a5, .int .i64 a6, .int .i64 a7, .int .i64 a8], .int .i64 st, .bool wri, .int .i64 many] w fun r w' => r = .returned (.tuple #[.slice none 0 0, .int .i64 ev]) ∧ Below w.heap.size w w' := by
  have hb0 : Below w.heap.size w ((w.alloc (.cells #[.int .i64 e, .slice p n c] 33)).alloc (.cells #[.int .i64 a0, .int .i64 a1, .int .i64 a2, .int .i64 a3, .int .i64 a4, .int .i64 a5, .int .i64 a6, .int .i64 a7, .int .i64 a8] 24)) := ((Below.refl _ _).alloc (Nat.le_refl _) _).alloc (by simp) _
  have hA : ArrI 24 .i64 ((w.alloc (.cells #[.int .i64 e, .slice p n c] 33)).alloc (.cells #[.int .i64 a0, .int .i64 a1, .int .i64 a2, .int .i64 a3, .int .i64 a4, .int .i64 a5, .int .i64 a6, .int .i64 a7, .int .i64 a8] 24)) (w.heap.size + 1) [a0, a1, a2, a3, a4, a5, a6, a7, a8] := new_at (by simp) (nine_cells (t := 24) (w.alloc (.cells #[.int .i64 e, .slice p n c] 33)) a0 a1 a2 a3 a4 a5 a6 a7 a8)
  have hK : At 33 ((w.alloc (.cells #[.int .i64 e, .slice p n c] 33)).alloc (.cells #[.int .i64 a0, .int .i64 a1, .int .i64 a2, .int .i64 a3, .int .i64 a4, .int .i64 a5, .int .i64 a6, .int .i64 a7, .int .i64 a8] 24)) w.heap.size #[.int .i64 e, .slice p n c] := (At.new 33 w #[.int .i64 e, .slice p n c]).alloc _
  have hO := askerOf_no e p n c ms a0 a1 a2 a3 a4 a5 a6 a7 a8 st _ (hr.below hb0) hn ev hev h0
  have h0b : (ev != 0) = true := by simp [h0]
  clear hr hev h0 hA hK
  go_enter Try.func23, Try.ntmps23
  go_wp2_with fail
  refine hO.mono ?_
  rintro r w1 ⟨rfl, hb1⟩
  have hbb := hb0.trans (hb1.mono hb0.size)
  have hb2 := hbb.alloc hbb.size (.cells #[.int .i64 0, .int .i64 0, .int .i64 0, .int .i64 0, .int .i64 0, .int .i64 0, .int .i64 0, .int .i64 0, .int .i64 0, .int .i64 0] 57)
  clear hO hb1 hb0
  go_wp2_with fail
  go_ret2
  exact ⟨rfl, hb2⟩

set_option maxRecDepth 20000 in
set_option maxHeartbeats 2000000 in
theorem Tries_arg (e : Int) (p : Option Addr) (n c : Nat) (ms : List Mb) (a0 a1 a2 a3 a4 a5 a6 a7 a8 : Int) (i0 : Nat) (hi0 : i0 < 3) (hk : chk e ms = true) (hw : okW [a0, a1, a2, a3, a4, a5, a6, a7, a8] = true) (many : Int) (wri : Bool) (hm : many < 0 ∨ 24 < many) (w : World) (hr : RdM w p n c ms) (hn : n ≤ 5864062014805) :
    Calls Try.prog 23 #[.agg #[.int .i64 e, .slice p n c], .agg #[.int .i64 a0, .int .i64 a1, .int .i64 a2, .int .i64 a3, .int .i64 a4, .int .i64 a5, .int .i64 a6, .int .i64 a7, .int .i64 a8], .int .i64 (i0 : Int), .bool wri, .int .i64 many] w fun r w' => r = .returned (.tuple #[.slice none 0 0, .int .i64 1]) ∧ Below w.heap.size w w' := by
  have hb0 : Below w.heap.size w ((w.alloc (.cells #[.int .i64 e, .slice p n c] 33)).alloc (.cells #[.int .i64 a0, .int .i64 a1, .int .i64 a2, .int .i64 a3, .int .i64 a4, .int .i64 a5, .int .i64 a6, .int .i64 a7, .int .i64 a8] 24)) := ((Below.refl _ _).alloc (Nat.le_refl _) _).alloc (by simp) _
  have hA : ArrI 24 .i64 ((w.alloc (.cells #[.int .i64 e, .slice p n c] 33)).alloc (.cells #[.int .i64 a0, .int .i64 a1, .int .i64 a2, .int .i64 a3, .int .i64 a4, .int .i64 a5, .int .i64 a6, .int .i64 a7, .int .i64 a8] 24)) (w.heap.size + 1) [a0, a1, a2, a3, a4, a5, a6, a7, a8] := new_at (by simp) (nine_cells (t := 24) (w.alloc (.cells #[.int .i64 e, .slice p n c] 33)) a0 a1 a2 a3 a4 a5 a6 a7 a8)
  have hK : At 33 ((w.alloc (.cells #[.int .i64 e, .slice p n c] 33)).alloc (.cells #[.int .i64 a0, .int .i64 a1, .int .i64 a2, .int .i64 a3, .int .i64 a4, .int .i64 a5, .int .i64 a6, .int .i64 a7, .int .i64 a8] 24)) w.heap.size #[.int .i64 e, .slice p n c] := (At.new 33 w #[.int .i64 e, .slice p n c]).alloc _
  have hS : isSt (i0 : Int) = true := by unfold isSt; simp; omega
  have hO := askerOf_ok e p n c ms a0 a1 a2 a3 a4 a5 a6 a7 a8 (i0 : Int) _ (hr.below hb0) hn hk hw hS
  clear hS hk hw hr hA hK
  go_enter Try.func23, Try.ntmps23
  go_wp2_with fail
  refine hO.mono ?_
  rintro r w1 ⟨rfl, hb1⟩
  have hbb := hb0.trans (hb1.mono hb0.size)
  have hb2 := hbb.alloc hbb.size (.cells #[.int .i64 a0, .int .i64 a1, .int .i64 a2, .int .i64 a3, .int .i64 a4, .int .i64 a5, .int .i64 a6, .int .i64 a7, .int .i64 a8, .int .i64 (i0 : Int)] 57)
  clear hO hb1 hb0
  by_cases h1 : many < 0
  · clear hm
    go_wp2_with fail
    go_ret2
    exact ⟨rfl, hb2⟩
  · have h2 : 24 < many := by omega
    clear hm
    go_wp2_with fail
    go_ret2
    exact ⟨rfl, hb2⟩

set_option maxRecDepth 20000 in
set_option maxHeartbeats 2000000 in
theorem rTries_no (e : Int) (p : Option Addr) (n c : Nat) (ms : List Mb) (a0 a1 a2 a3 a4 a5 a6 a7 a8 : Int) (st ev many : Int) (wri : Bool) (hev : mayR e ms [a0, a1, a2, a3, a4, a5, a6, a7, a8] st = ev) (h0 : ev ≠ 0) (w : World) (hr : RdM w p n c ms) (hn : n ≤ 5864062014805) :
    Calls Try.prog 24 #[.agg #[.int .i64 e, .slice p n c], .agg #[.int .i64 a0, .int .i64 a1, .int .i64 a2, .int .i64 a3, .int .i64 a4, .int .i64 a5, .int .i64 a6, .int .i64 a7, .int .i64 a8], .int .i64 st, .bool wri, .int .i64 many] w fun r w' => r = .returned (.tuple #[.slice none 0 0, .int .i64 ev]) ∧ Below w.heap.size w w' := by
  have hb0 : Below w.heap.size w ((w.alloc (.cells #[.int .i64 e, .slice p n c] 33)).alloc (.cells #[.int .i64 a0, .int .i64 a1, .int .i64 a2, .int .i64 a3, .int .i64 a4, .int .i64 a5, .int .i64 a6, .int .i64 a7, .int .i64 a8] 24)) := ((Below.refl _ _).alloc (Nat.le_refl _) _).alloc (by simp) _
  have hA : ArrI 24 .i64 ((w.alloc (.cells #[.int .i64 e, .slice p n c] 33)).alloc (.cells #[.int .i64 a0, .int .i64 a1, .int .i64 a2, .int .i64 a3, .int .i64 a4, .int .i64 a5, .int .i64 a6, .int .i64 a7, .int .i64 a8] 24)) (w.heap.size + 1) [a0, a1, a2, a3, a4, a5, a6, a7, a8] := new_at (by simp) (nine_cells (t := 24) (w.alloc (.cells #[.int .i64 e, .slice p n c] 33)) a0 a1 a2 a3 a4 a5 a6 a7 a8)
  have hK : At 33 ((w.alloc (.cells #[.int .i64 e, .slice p n c] 33)).alloc (.cells #[.int .i64 a0, .int .i64 a1, .int .i64 a2, .int .i64 a3, .int .i64 a4, .int .i64 a5, .int .i64 a6, .int .i64 a7, .int .i64 a8] 24)) w.heap.size #[.int .i64 e, .slice p n c] := (At.new 33 w #[.int .i64 e, .slice p n c]).alloc _
  have hO := rNear_no e p n c ms a0 a1 a2 a3 a4 a5 a6 a7 a8 st ev hev h0 _ (hr.below hb0) hn
  have h0b : (ev != 0) = true := by simp [h0]
  clear hr hev h0 hA hK
  go_enter Try.func24, Try.ntmps24
  go_wp2_with fail
  refine hO.mono ?_
  rintro r w1 ⟨rfl, hb1⟩
  have hbb := hb0.trans (hb1.mono hb0.size)
  have hb2 := hbb
  clear hO hb1 hb0
  go_wp2_with fail
  go_ret2
  exact ⟨rfl, hb2⟩

set_option maxRecDepth 20000 in
set_option maxHeartbeats 2000000 in
theorem rTries_arg (e : Int) (p : Option Addr) (n c : Nat) (ms : List Mb) (a0 a1 a2 a3 a4 a5 a6 a7 a8 : Int) (i0 : Nat) (hi0 : i0 < 3) (hk : chk e ms = true) (hw : okW [a0, a1, a2, a3, a4, a5, a6, a7, a8] = true) (many : Int) (wri : Bool) (hm : many < 0 ∨ 24 < many) (w : World) (hr : RdM w p n c ms) (hn : n ≤ 5864062014805) :
    Calls Try.prog 24 #[.agg #[.int .i64 e, .slice p n c], .agg #[.int .i64 a0, .int .i64 a1, .int .i64 a2, .int .i64 a3, .int .i64 a4, .int .i64 a5, .int .i64 a6, .int .i64 a7, .int .i64 a8], .int .i64 (i0 : Int), .bool wri, .int .i64 many] w fun r w' => r = .returned (.tuple #[.slice none 0 0, .int .i64 1]) ∧ Below w.heap.size w w' := by
  have hb0 : Below w.heap.size w ((w.alloc (.cells #[.int .i64 e, .slice p n c] 33)).alloc (.cells #[.int .i64 a0, .int .i64 a1, .int .i64 a2, .int .i64 a3, .int .i64 a4, .int .i64 a5, .int .i64 a6, .int .i64 a7, .int .i64 a8] 24)) := ((Below.refl _ _).alloc (Nat.le_refl _) _).alloc (by simp) _
  have hA : ArrI 24 .i64 ((w.alloc (.cells #[.int .i64 e, .slice p n c] 33)).alloc (.cells #[.int .i64 a0, .int .i64 a1, .int .i64 a2, .int .i64 a3, .int .i64 a4, .int .i64 a5, .int .i64 a6, .int .i64 a7, .int .i64 a8] 24)) (w.heap.size + 1) [a0, a1, a2, a3, a4, a5, a6, a7, a8] := new_at (by simp) (nine_cells (t := 24) (w.alloc (.cells #[.int .i64 e, .slice p n c] 33)) a0 a1 a2 a3 a4 a5 a6 a7 a8)
  have hK : At 33 ((w.alloc (.cells #[.int .i64 e, .slice p n c] 33)).alloc (.cells #[.int .i64 a0, .int .i64 a1, .int .i64 a2, .int .i64 a3, .int .i64 a4, .int .i64 a5, .int .i64 a6, .int .i64 a7, .int .i64 a8] 24)) w.heap.size #[.int .i64 e, .slice p n c] := (At.new 33 w #[.int .i64 e, .slice p n c]).alloc _
  have hO := rNear_ok e p n c ms a0 a1 a2 a3 a4 a5 a6 a7 a8 i0 hi0 hk hw _ (hr.below hb0) hn
  clear hk hw hr hA hK
  go_enter Try.func24, Try.ntmps24
  go_wp2_with fail
  refine hO.mono ?_
  rintro r w1 ⟨q, d, rfl, _, hb1⟩
  have hbb := hb0.trans (hb1.mono hb0.size)
  have hb2 := hbb
  clear hO hb1 hb0
  by_cases h1 : many < 0
  · clear hm
    go_wp2_with fail
    go_ret2
    exact ⟨rfl, hb2⟩
  · have h2 : 24 < many := by omega
    clear hm
    go_wp2_with fail
    go_ret2
    exact ⟨rfl, hb2⟩

set_option maxRecDepth 20000 in
set_option maxHeartbeats 2000000 in
theorem rTries_ok (e : Int) (p : Option Addr) (n c : Nat) (ms : List Mb) (a0 a1 a2 a3 a4 a5 a6 a7 a8 : Int) (i0 : Nat) (hi0 : i0 < 3) (hk : chk e ms = true) (hw : okW [a0, a1, a2, a3, a4, a5, a6, a7, a8] = true) (wri : Bool) (T : Nat) (hT : T ≤ 24) (w : World) (hr : RdM w p n c ms) (hn : n ≤ 5864062014805) :
    Calls Try.prog 24 #[.agg #[.int .i64 e, .slice p n c], .agg #[.int .i64 a0, .int .i64 a1, .int .i64 a2, .int .i64 a3, .int .i64 a4, .int .i64 a5, .int .i64 a6, .int .i64 a7, .int .i64 a8], .int .i64 (i0 : Int), .bool wri, .int .i64 (T : Int)] w fun r w' => ∃ q d, r = .returned (.tuple #[.slice q T d, .int .i64 0]) ∧ Rd .i64 w' q T d (cyc ((asked [a0, a1, a2, a3, a4, a5, a6, a7, a8] i0 wri ms).map (·.n)) T) ∧ Below w.heap.size w w' := by
  have hb0 : Below w.heap.size w ((w.alloc (.cells #[.int .i64 e, .slice p n c] 33)).alloc (.cells #[.int .i64 a0, .int .i64 a1, .int .i64 a2, .int .i64 a3, .int .i64 a4, .int .i64 a5, .int .i64 a6, .int .i64 a7, .int .i64 a8] 24)) := ((Below.refl _ _).alloc (Nat.le_refl _) _).alloc (by simp) _
  have hA : ArrI 24 .i64 ((w.alloc (.cells #[.int .i64 e, .slice p n c] 33)).alloc (.cells #[.int .i64 a0, .int .i64 a1, .int .i64 a2, .int .i64 a3, .int .i64 a4, .int .i64 a5, .int .i64 a6, .int .i64 a7, .int .i64 a8] 24)) (w.heap.size + 1) [a0, a1, a2, a3, a4, a5, a6, a7, a8] := new_at (by simp) (nine_cells (t := 24) (w.alloc (.cells #[.int .i64 e, .slice p n c] 33)) a0 a1 a2 a3 a4 a5 a6 a7 a8)
  have hK : At 33 ((w.alloc (.cells #[.int .i64 e, .slice p n c] 33)).alloc (.cells #[.int .i64 a0, .int .i64 a1, .int .i64 a2, .int .i64 a3, .int .i64 a4, .int .i64 a5, .int .i64 a6, .int .i64 a7, .int .i64 a8] 24)) w.heap.size #[.int .i64 e, .slice p n c] := (At.new 33 w #[.int .i64 e, .slice p n c]).alloc _
  have hO := rNear_ok e p n c ms a0 a1 a2 a3 a4 a5 a6 a7 a8 i0 hi0 hk hw _ (hr.below hb0) hn
  have h6 := chk_six hk
  have hp := chk_pos hk
  have hl := hr.len
  obtain ⟨hap, ha6⟩ := asked_pos hk [a0, a1, a2, a3, a4, a5, a6, a7, a8] i0 wri
  obtain ⟨i1, hi1, hz0, hz1, hz2⟩ := info_parts infoI
  have hT1 : ¬ (24 : Int) < (T : Int) := by omega
  have hLl : ((asked [a0, a1, a2, a3, a4, a5, a6, a7, a8] i0 wri ms).map (·.n)).length = (asked [a0, a1, a2, a3, a4, a5, a6, a7, a8] i0 wri ms).length := List.length_map _
  clear hk hw
  cases wri with
  | false =>
    have HAS : Hid ((asked [a0, a1, a2, a3, a4, a5, a6, a7, a8] i0 false ms).map (·.n) = (srt (nrC [a0, a1, a2, a3, a4, a5, a6, a7, a8] i0) ms).map (·.n)) := rfl
    have HLn : Hid ((asked [a0, a1, a2, a3, a4, a5, a6, a7, a8] i0 false ms).length = n) := by unfold Hid asked; simp only [Bool.false_eq_true, if_false]; rw [srt_len]; exact hl
    rw [← HAS.out] at hO
    generalize (asked [a0, a1, a2, a3, a4, a5, a6, a7, a8] i0 false ms).map (·.n) = LL at *
    generalize (asked [a0, a1, a2, a3, a4, a5, a6, a7, a8] i0 false ms).length = al at *
    have hn2 := HLn.out
    subst hn2
    clear HAS HLn
    go_enter Try.func24, Try.ntmps24
    go_wp2_with fail
    refine hO.mono ?_
    rintro r w4 ⟨q, d, rfl, hrL, hb1⟩
    have hb3 := hb0.trans (hb1.mono hb0.size)
    clear hO hr hA hK hb0 hb1
    go_wp2_with fail
    generalize hB0 : w4.heap.size = B0 at *
    go_loopw [16] (fun v wr => ∃ (U : Nat) (q2 : Option Addr) (d2 : Nat), U ≤ T ∧ (U % al = 0 ∨ U = T) ∧ v = .slice q2 U d2 ∧ Ow .i64 3 wr B0 q2 U d2 (cyc LL U) ∧ Below B0 w4 wr) (fun v _ => T - slen v)
    case atStart => exact ⟨0, none, 0, Nat.zero_le _, Or.inl (Nat.zero_mod _), rfl, Ow.empty _ _ _ _ _, Below.refl _ _⟩
    case round =>
      obtain ⟨U, q2, d2, hU, hUm, rfl, ho, hb⟩ := hrel
      by_cases h : U < T
      · have hUT : (U : Int) < (T : Int) := by omega
        have hU0 : U % al = 0 := by omega
        clear hUm
        go_wp2_with fail
        obtain ⟨w5, hw5⟩ : ∃ x, x = wr := ⟨wr, rfl⟩
        go_loopw [16, 58] (fun v i wr => ∃ (j : Nat) (q2 : Option Addr) (d2 : Nat), j ≤ al ∧ i = .int .i64 j ∧ v = .slice q2 (min (U + j) T) d2 ∧ Ow .i64 3 wr B0 q2 (min (U + j) T) d2 (cyc LL (min (U + j) T)) ∧ Below B0 w4 wr) (fun _ i _ => al - (intOf i).toNat)
        case atStart =>
          have e : min (U + 0) T = U := by omega
          exact ⟨0, q2, d2, Nat.zero_le _, rfl, by rw [e], by rw [e]; exact ho, hb⟩
        case round =>
          clear ho hb hw5
          obtain ⟨j, q2, d2, hj, rfl, rfl, ho, hb⟩ := hrel
          have hbW : Below w4.heap.size w4 wr := by rw [hB0]; exact hb
          by_cases hjj : j < al
          · have hji : (j : Int) < (al : Int) := by omega
            obtain ⟨g1, o1, hpe, cc⟩ := (hrL.below hbW).cells (by omega)
            cases hpe
            have x1 := cc j hjj
            have hmod : (U + j) % al = j := by rw [Nat.add_mod, hU0, Nat.zero_add, Nat.mod_mod, Nat.mod_eq_of_lt hjj]
            have HS : Hid (cyc LL (U + j + 1) = cyc LL (U + j) ++ [LL.getD j 0]) := by
              unfold Hid
              rw [cyc_succ, hLl, hmod]
            generalize LL.getD j 0 = fn at *
            by_cases hin : U + j < T
            · have e1 : min (U + j) T = U + j := by omega
              have e2 : min (U + (j + 1)) T = U + j + 1 := by omega
              rw [e1] at ho ⊢
              have hlt : ((U + j : Nat) : Int) < (T : Int) := by omega
              have hba : Below wr.heap.size wr (wr.alloc (.cells #[.int .i64 fn] 3)) := (Below.refl _ _).alloc (Nat.le_refl _) _
              have hob := ho.below hba
              have hbc := hb.trans (hba.mono (by rw [← hB0]; exact hbW.size))
              have hone := Rd.one .i64 wr 3 fn
              clear ho hb cc hmod
              generalize hUj : U + j = uj at *
              go_wp2_with (at_builtin; refine wpList_app _ rfl (.tmp 66) (.tmp 68) 37 rfl .i64 3 i1 (.int .i64 0) 8 Try.underlying37 hi1 hz0 hz1 hz2 rfl B0 q2 uj d2 (cyc LL uj) rfl hob (some ⟨wr.heap.size, 0, none⟩) 1 1 [fn] rfl hone (by omega) (by unfold maxLen; omega) (by rw [← hB0]; exact Nat.le_trans hbW.size hba.size) ?_)
              intro p3 c3 w6 ho2 hb4
              go_wp2_with fail
              go_roundw
              case rel => exact ⟨j + 1, p3, c3, by omega, by go_num, by rw [e2], by rw [e2, HS.out]; exact ho2, hbc.trans hb4⟩
              case measure => simp [intOf]; omega
            · have e1 : min (U + j) T = T := by omega
              have e2 : min (U + (j + 1)) T = T := by omega
              rw [e1] at ho ⊢
              have hlt : ¬ (T : Int) < (T : Int) := by omega
              clear cc hmod
              go_wp2_with fail
              go_roundw
              case rel => exact ⟨j + 1, q2, d2, by omega, by go_num, by rw [e2], by rw [e2]; exact ho, hb⟩
              case measure => simp [intOf]; omega
          · obtain rfl : j = al := by omega
            have hji : ¬ (j : Int) < (j : Int) := by omega
            have hfin : min (U + j) T % j = 0 ∨ min (U + j) T = T := by
              rcases Nat.le_total (U + j) T with h1 | h1
              · left
                rw [Nat.min_eq_left h1, Nat.add_mod_right]
                exact hU0
              · right
                exact Nat.min_eq_right h1
            go_wp2_with fail
            go_roundw
            case rel => exact ⟨min (U + j) T, q2, d2, by omega, hfin, rfl, ho, hb⟩
            case measure => simp [slen]; omega
      · obtain rfl : U = T := by omega
        have hki : ¬ (U : Int) < (U : Int) := by omega
        have hrd := ho.rd
        have hbz := hb3.trans (hb.mono (by rw [← hB0]; exact hb3.size))
        clear ho hb
        go_wp2_with fail
        go_ret2
        exact ⟨q2, d2, rfl, hrd, hbz⟩
  | true =>
    have HAS : Hid ((asked [a0, a1, a2, a3, a4, a5, a6, a7, a8] i0 true ms).map (·.n) = ((ms.take n).filter (fun m => !m.f)).map (·.n)) := by unfold Hid; rw [List.take_of_length_le (by omega)]; rfl
    generalize (asked [a0, a1, a2, a3, a4, a5, a6, a7, a8] i0 true ms).map (·.n) = LL at *
    generalize (asked [a0, a1, a2, a3, a4, a5, a6, a7, a8] i0 true ms).length = al at *
    go_enter Try.func24, Try.ntmps24
    go_wp2_with fail
    refine hO.mono ?_
    rintro r w1 ⟨q, d, rfl, _, hb1⟩
    have hb2 := hb0.trans (hb1.mono hb0.size)
    have hr1 := hr.below hb2
    obtain ⟨k0, k1⟩ := (hK.below hb1).two
    clear hO hr hA hK hb0 hb1
    go_wp2_with fail
    generalize hB1 : w1.heap.size = B1 at *
    go_loopw [12, 39] (fun v i wr => ∃ (k : Nat) (q2 : Option Addr) (l d2 : Nat), k ≤ n ∧ i = .int .i64 k ∧ v = .slice q2 l d2 ∧ Hid (l = (((ms.take k).filter fun m => !m.f).map (·.n)).length) ∧ Ow .i64 3 wr B1 q2 l d2 (((ms.take k).filter fun m => !m.f).map (·.n)) ∧ Below B1 w1 wr) (fun _ i _ => n - (intOf i).toNat)
    case atStart => exact ⟨0, none, 0, 0, Nat.zero_le _, rfl, rfl, rfl, Ow.empty _ _ _ _ _, Below.refl _ _⟩
    case round =>
      obtain ⟨k, q2, l, d2, hkn, rfl, rfl, HL, ho, hb⟩ := hrel
      have hbW : Below w1.heap.size w1 wr := by rw [hB1]; exact hb
      by_cases h : k < n
      · obtain ⟨g1, o1, rfl, c1⟩ := (hr1.below hbW).cells (by omega)
        obtain ⟨x1, x2, x3⟩ := c1 k h
        have hk1 : (k : Int) < (n : Int) := by omega
        have HS : Hid (((ms.take (k + 1)).filter fun m => !m.f).map (·.n) = ((ms.take k).filter fun m => !m.f).map (·.n) ++ (if (ms.getD k .z0).f = false then [(ms.getD k .z0).n] else [])) := whole_snoc ms k (by omega)
        have hll : l ≤ n := by rw [HL.out, ← hl]; exact whole_le ms k
        clear c1
        generalize ms.getD k .z0 = f at *
        obtain ⟨fn, fs, ff⟩ := f
        dsimp only at x1 x2 x3 HS
        generalize ((ms.take k).filter fun m => !m.f).map (·.n) = ys at *
        have hba : Below wr.heap.size wr (wr.alloc (.cells #[.int .i64 fn, .int .i64 fs, .bool ff] 36)) := (Below.refl _ _).alloc (Nat.le_refl _) _
        have hoa := ho.below hba
        have hbb := hb.trans (hba.mono (by rw [← hB1]; exact hbW.size))
        cases ff with
        | true =>
          have HT : Hid (((ms.take (k + 1)).filter fun m => !m.f).map (·.n) = ys) := by unfold Hid; rw [HS.out]; simp
          clear HS
          go_wp2_with fail
          go_roundw
          case rel => exact ⟨k + 1, q2, l, d2, by omega, by go_num, rfl, by unfold Hid; rw [HT.out]; exact HL.out, by rw [HT.out]; exact hoa, hbb⟩
          case measure => simp [intOf]; omega
        | false =>
          have HT : Hid (((ms.take (k + 1)).filter fun m => !m.f).map (·.n) = ys ++ [fn]) := by unfold Hid; rw [HS.out]; simp
          have hb2q : Below (wr.alloc (.cells #[.int .i64 fn, .int .i64 fs, .bool false] 36)).heap.size (wr.alloc (.cells #[.int .i64 fn, .int .i64 fs, .bool false] 36)) ((wr.alloc (.cells #[.int .i64 fn, .int .i64 fs, .bool false] 36)).alloc (.cells #[.int .i64 fn] 3)) := (Below.refl _ _).alloc (Nat.le_refl _) _
          have hob := hoa.below hb2q
          have hsz : B1 ≤ (wr.alloc (.cells #[.int .i64 fn, .int .i64 fs, .bool false] 36)).heap.size := by rw [← hB1]; exact Nat.le_trans hbW.size hba.size
          have hbc := hbb.trans (hb2q.mono hsz)
          have hone := Rd.one .i64 (wr.alloc (.cells #[.int .i64 fn, .int .i64 fs, .bool false] 36)) 3 fn
          have hsa : (wr.alloc (.cells #[.int .i64 fn, .int .i64 fs, .bool false] 36)).heap.size = wr.heap.size + 1 := by simp
          rw [hsa] at hone
          clear HS hsa
          go_wp2_with (at_builtin; refine wpList_app _ rfl (.tmp 46) (.tmp 49) 37 rfl .i64 3 i1 (.int .i64 0) 8 Try.underlying37 hi1 hz0 hz1 hz2 rfl B1 q2 l d2 ys rfl hob (some ⟨wr.heap.size + 1, 0, none⟩) 1 1 [fn] rfl hone (by omega) (by unfold maxLen; omega) (Nat.le_trans hsz hb2q.size) ?_)
          intro p3 c3 w6 ho2 hb4
          go_wp2_with fail
          go_roundw
          case rel => exact ⟨k + 1, p3, l + 1, c3, by omega, by go_num, rfl, by unfold Hid; rw [HT.out, List.length_append, ← HL.out]; rfl, by rw [HT.out]; exact ho2, hbc.trans hb4⟩
          case measure => simp [intOf]; omega
      · obtain rfl : k = n := by omega
        have hki : ¬ (k : Int) < (k : Int) := by omega
        rw [← HAS.out] at ho HL
        have hl2 : l = al := by rw [HL.out, hLl]
        subst hl2
        have hrL := ho.rd
        have hb3 := hb2.trans (hb.mono (by rw [← hB1]; exact hb2.size))
        clear ho HL HAS hr1 k0 k1
        obtain ⟨w4, hw4⟩ : ∃ x, x = wr := ⟨wr, rfl⟩
        rw [← hw4] at hrL hb3 ⊢
        clear hb hbW hw4
        go_wp2_with fail
        generalize hB0 : w4.heap.size = B0 at *
        go_loopw [16] (fun v wr => ∃ (U : Nat) (q2 : Option Addr) (d2 : Nat), U ≤ T ∧ (U % l = 0 ∨ U = T) ∧ v = .slice q2 U d2 ∧ Ow .i64 3 wr B0 q2 U d2 (cyc LL U) ∧ Below B0 w4 wr) (fun v _ => T - slen v)
        case atStart => exact ⟨0, none, 0, Nat.zero_le _, Or.inl (Nat.zero_mod _), rfl, Ow.empty _ _ _ _ _, Below.refl _ _⟩
        case round =>
          obtain ⟨U, q2, d2, hU, hUm, rfl, ho, hb⟩ := hrel
          by_cases h : U < T
          · have hUT : (U : Int) < (T : Int) := by omega
            have hU0 : U % l = 0 := by omega
            clear hUm
            go_wp2_with fail
            obtain ⟨w5, hw5⟩ : ∃ x, x = wr := ⟨wr, rfl⟩
            go_loopw [16, 58] (fun v i wr => ∃ (j : Nat) (q2 : Option Addr) (d2 : Nat), j ≤ l ∧ i = .int .i64 j ∧ v = .slice q2 (min (U + j) T) d2 ∧ Ow .i64 3 wr B0 q2 (min (U + j) T) d2 (cyc LL (min (U + j) T)) ∧ Below B0 w4 wr) (fun _ i _ => l - (intOf i).toNat)
            case atStart =>
              have e : min (U + 0) T = U := by omega
              exact ⟨0, q2, d2, Nat.zero_le _, rfl, by rw [e], by rw [e]; exact ho, hb⟩
            case round =>
              clear ho hb hw5
              obtain ⟨j, q2, d2, hj, rfl, rfl, ho, hb⟩ := hrel
              have hbW : Below w4.heap.size w4 wr := by rw [hB0]; exact hb
              by_cases hjj : j < l
              · have hji : (j : Int) < (l : Int) := by omega
                obtain ⟨g1, o1, hpe, cc⟩ := (hrL.below hbW).cells (by omega)
                cases hpe
                have x1 := cc j hjj
                have hmod : (U + j) % l = j := by rw [Nat.add_mod, hU0, Nat.zero_add, Nat.mod_mod, Nat.mod_eq_of_lt hjj]
                have HS : Hid (cyc LL (U + j + 1) = cyc LL (U + j) ++ [LL.getD j 0]) := by
                  unfold Hid
                  rw [cyc_succ, hLl, hmod]
                generalize LL.getD j 0 = fn at *
                by_cases hin : U + j < T
                · have e1 : min (U + j) T = U + j := by omega
                  have e2 : min (U + (j + 1)) T = U + j + 1 := by omega
                  rw [e1] at ho ⊢
                  have hlt : ((U + j : Nat) : Int) < (T : Int) := by omega
                  have hba : Below wr.heap.size wr (wr.alloc (.cells #[.int .i64 fn] 3)) := (Below.refl _ _).alloc (Nat.le_refl _) _
                  have hob := ho.below hba
                  have hbc := hb.trans (hba.mono (by rw [← hB0]; exact hbW.size))
                  have hone := Rd.one .i64 wr 3 fn
                  clear ho hb cc hmod
                  generalize hUj : U + j = uj at *
                  go_wp2_with (at_builtin; refine wpList_app _ rfl (.tmp 66) (.tmp 68) 37 rfl .i64 3 i1 (.int .i64 0) 8 Try.underlying37 hi1 hz0 hz1 hz2 rfl B0 q2 uj d2 (cyc LL uj) rfl hob (some ⟨wr.heap.size, 0, none⟩) 1 1 [fn] rfl hone (by omega) (by unfold maxLen; omega) (by rw [← hB0]; exact Nat.le_trans hbW.size hba.size) ?_)
                  intro p3 c3 w6 ho2 hb4
                  go_wp2_with fail
                  go_roundw
                  case rel => exact ⟨j + 1, p3, c3, by omega, by go_num, by rw [e2], by rw [e2, HS.out]; exact ho2, hbc.trans hb4⟩
                  case measure => simp [intOf]; omega
                · have e1 : min (U + j) T = T := by omega
                  have e2 : min (U + (j + 1)) T = T := by omega
                  rw [e1] at ho ⊢
                  have hlt : ¬ (T : Int) < (T : Int) := by omega
                  clear cc hmod
                  go_wp2_with fail
                  go_roundw
                  case rel => exact ⟨j + 1, q2, d2, by omega, by go_num, by rw [e2], by rw [e2]; exact ho, hb⟩
                  case measure => simp [intOf]; omega
              · obtain rfl : j = l := by omega
                have hji : ¬ (j : Int) < (j : Int) := by omega
                have hfin : min (U + j) T % j = 0 ∨ min (U + j) T = T := by
                  rcases Nat.le_total (U + j) T with h1 | h1
                  · left
                    rw [Nat.min_eq_left h1, Nat.add_mod_right]
                    exact hU0
                  · right
                    exact Nat.min_eq_right h1
                go_wp2_with fail
                go_roundw
                case rel => exact ⟨min (U + j) T, q2, d2, by omega, hfin, rfl, ho, hb⟩
                case measure => simp [slen]; omega
          · obtain rfl : U = T := by omega
            have hki : ¬ (U : Int) < (U : Int) := by omega
            have hrd := ho.rd
            have hbz := hb3.trans (hb.mono (by rw [← hB0]; exact hb3.size))
            clear ho hb
            go_wp2_with fail
            go_ret2
            exact ⟨q2, d2, rfl, hrd, hbz⟩

end Go.Proofs.Ytdjeafaaclhpkaa.M
