/-
  Own text: contracts of route's Near and Write.
-/
import Derived.Test.YtdjeafaaclhpkabDoorZNear
namespace Go.Proofs.YtdjeafaaclhpkabDoor.M
open Go.ChangeShapes Go.WideShapes Go.ChangeAt Go.RowKit

theorem okW_in {B9 : List Int} (h9 : B9.length = 9) (h : okW B9 = true) : inW B9 := by
  obtain ⟨x, y, z, hx, hy, hz, rfl⟩ := okW_shape h9 h
  exact inW_wy x y z hx hy hz

set_option maxRecDepth 20000 in
set_option maxHeartbeats 2000000 in
theorem Near_ok (e : Int) (p : Option Addr) (n c : Nat) (ms : List Mb) (a0 a1 a2 a3 a4 a5 a6 a7 a8 : Int) (i0 : Nat) (hi0 : i0 < 3) (hk : chk e ms = true) (hw : okW [a0, a1, a2, a3, a4, a5, a6, a7, a8] = true) (w : World) (hr : RdM w p n c ms) (hn : n ≤ 5864062014805) :
    Calls Tryd.prog 10 #[.agg #[.int .i64 e, .slice p n c], .agg #[.int .i64 a0, .int .i64 a1, .int .i64 a2, .int .i64 a3, .int .i64 a4, .int .i64 a5, .int .i64 a6, .int .i64 a7, .int .i64 a8], .int .i64 (i0 : Int)] w fun r w' => ∃ q d, r = .returned (.tuple #[.slice q n d, .int .i64 0]) ∧ Rd .i64 w' q n d ((srt (nrC [a0, a1, a2, a3, a4, a5, a6, a7, a8] i0) ms).map (·.n)) ∧ (∀ a, q = some a → w.heap.size ≤ a.block) ∧ Below w.heap.size w w' := by
  have hb0 : Below w.heap.size w ((w.alloc (.cells #[.int .i64 e, .slice p n c] 31)).alloc (.cells #[.int .i64 a0, .int .i64 a1, .int .i64 a2, .int .i64 a3, .int .i64 a4, .int .i64 a5, .int .i64 a6, .int .i64 a7, .int .i64 a8] 25)) := ((Below.refl _ _).alloc (Nat.le_refl _) _).alloc (by simp) _
  have hA : ArrI 25 .i64 ((w.alloc (.cells #[.int .i64 e, .slice p n c] 31)).alloc (.cells #[.int .i64 a0, .int .i64 a1, .int .i64 a2, .int .i64 a3, .int .i64 a4, .int .i64 a5, .int .i64 a6, .int .i64 a7, .int .i64 a8] 25)) (w.heap.size + 1) [a0, a1, a2, a3, a4, a5, a6, a7, a8] := new_at (by simp) (nine_cells (t := 25) (w.alloc (.cells #[.int .i64 e, .slice p n c] 31)) a0 a1 a2 a3 a4 a5 a6 a7 a8)
  have hK : At 31 ((w.alloc (.cells #[.int .i64 e, .slice p n c] 31)).alloc (.cells #[.int .i64 a0, .int .i64 a1, .int .i64 a2, .int .i64 a3, .int .i64 a4, .int .i64 a5, .int .i64 a6, .int .i64 a7, .int .i64 a8] 25)) w.heap.size #[.int .i64 e, .slice p n c] := (At.new 31 w #[.int .i64 e, .slice p n c]).alloc _
  have hS : isSt (i0 : Int) = true := by unfold isSt; simp; omega
  have hO := askerOf_ok e p n c ms a0 a1 a2 a3 a4 a5 a6 a7 a8 (i0 : Int) _ (hr.below hb0) hn hk hw hS
  have h6 := chk_six hk
  have hp := chk_pos hk
  have hl := hr.len
  have hss : ∀ m ∈ ms, atSite m := fun m hm => by
    obtain ⟨j, hj, e⟩ := chk_site hk hm
    unfold atSite
    omega
  have hin := okW_in (B9 := [a0, a1, a2, a3, a4, a5, a6, a7, a8]) rfl hw
  clear hS hk hw
  go_enter Tryd.func10, Tryd.ntmps10
  go_wp2_with fail
  refine hO.mono ?_
  rintro r w1 ⟨rfl, hb1⟩
  have hbb := hb0.trans (hb1.mono hb0.size)
  have hba : Below w1.heap.size w1 (w1.alloc (.cells #[.int .i64 a0, .int .i64 a1, .int .i64 a2, .int .i64 a3, .int .i64 a4, .int .i64 a5, .int .i64 a6, .int .i64 a7, .int .i64 a8, .int .i64 (i0 : Int)] 47)) := (Below.refl _ _).alloc (Nat.le_refl _) _
  have hK1 := (hK.below hb1).below hba
  have hA1 := (hA.below hb1).below hba
  have hQ : ArrI 47 .i64 (w1.alloc (.cells #[.int .i64 a0, .int .i64 a1, .int .i64 a2, .int .i64 a3, .int .i64 a4, .int .i64 a5, .int .i64 a6, .int .i64 a7, .int .i64 a8, .int .i64 (i0 : Int)] 47)) w1.heap.size [a0, a1, a2, a3, a4, a5, a6, a7, a8, (i0 : Int)] := ArrI.new 47 .i64 w1 [a0, a1, a2, a3, a4, a5, a6, a7, a8, (i0 : Int)]
  have hb2 := hbb.trans (hba.mono hbb.size)
  have hr1 := hr.below hb2
  obtain ⟨c0, c1, c2, c3, c4, c5, c6, c7, c8, c9⟩ := ten hQ
  obtain ⟨k0, k1⟩ := hK1.two
  have hN := near_any a0 a1 a2 a3 a4 a5 a6 a7 a8 i0 hi0 p n c ms hss _ hr1 (by omega) (by omega)
  clear hO hr hA hA1 hK hK1 hb0 hb1 hbb hba hr1 hQ
  go_wp2_with fail
  refine hN.mono ?_
  rintro r w2 ⟨q, d, rfl, hr2, hb3⟩
  have hbc := hb2.trans (hb3.mono hb2.size)
  have hNo := nodes_any q n d _ w2 hr2 (by omega)
  clear hN hb3 hb2 c0 c1 c2 c3 c4 c5 c6 c7 c8 c9 k0 k1
  go_wp2_with fail
  refine hNo.mono ?_
  rintro r w3 ⟨q3, d3, rfl, hr3, hfar, hb4⟩
  go_wp2_with fail
  go_ret2
  exact ⟨q3, d3, rfl, hr3, fun a ha => Nat.le_trans hbc.size (hfar (by omega) a ha), hbc.trans (hb4.mono hbc.size)⟩

set_option maxRecDepth 20000 in
set_option maxHeartbeats 2000000 in
theorem Near_no (e : Int) (p : Option Addr) (n c : Nat) (ms : List Mb) (a0 a1 a2 a3 a4 a5 a6 a7 a8 : Int) (st ev : Int) (hev : mayR e ms [a0, a1, a2, a3, a4, a5, a6, a7, a8] st = ev) (h0 : ev ≠ 0) (w : World) (hr : RdM w p n c ms) (hn : n ≤ 5864062014805) :
    Calls Tryd.prog 10 #[.agg #[.int .i64 e, .slice p n c], .agg #[.int .i64 a0, .int .i64 a1, .int .i64 a2, .int .i64 a3, .int .i64 a4, .int .i64 a5, .int .i64 a6, .int .i64 a7, .int .i64 a8], .int .i64 st] w fun r w' => r = .returned (.tuple #[.slice none 0 0, .int .i64 ev]) ∧ Below w.heap.size w w' := by
  have hb0 : Below w.heap.size w ((w.alloc (.cells #[.int .i64 e, .slice p n c] 31)).alloc (.cells #[.int .i64 a0, .int .i64 a1, .int .i64 a2, .int .i64 a3, .int .i64 a4, .int .i64 a5, .int .i64 a6, .int .i64 a7, .int .i64 a8] 25)) := ((Below.refl _ _).alloc (Nat.le_refl _) _).alloc (by simp) _
  have hA : ArrI 25 .i64 ((w.alloc (.cells #[.int .i64 e, .slice p n c] 31)).alloc (.cells #[.int .i64 a0, .int .i64 a1, .int .i64 a2, .int .i64 a3, .int .i64 a4, .int .i64 a5, .int .i64 a6, .int .i64 a7, .int .i64 a8] 25)) (w.heap.size + 1) [a0, a1, a2, a3, a4, a5, a6, a7, a8] := new_at (by simp) (nine_cells (t := 25) (w.alloc (.cells #[.int .i64 e, .slice p n c] 31)) a0 a1 a2 a3 a4 a5 a6 a7 a8)
  have hK : At 31 ((w.alloc (.cells #[.int .i64 e, .slice p n c] 31)).alloc (.cells #[.int .i64 a0, .int .i64 a1, .int .i64 a2, .int .i64 a3, .int .i64 a4, .int .i64 a5, .int .i64 a6, .int .i64 a7, .int .i64 a8] 25)) w.heap.size #[.int .i64 e, .slice p n c] := (At.new 31 w #[.int .i64 e, .slice p n c]).alloc _
  have hO := askerOf_no e p n c ms a0 a1 a2 a3 a4 a5 a6 a7 a8 st _ (hr.below hb0) hn ev hev h0
  have h0b : (ev != 0) = true := by simp [h0]
  clear hr hev h0 hA hK
  go_enter Tryd.func10, Tryd.ntmps10
  go_wp2_with fail
  refine hO.mono ?_
  rintro r w1 ⟨rfl, hb1⟩
  have hbb := hb0.trans (hb1.mono hb0.size)
  have hb2 := hbb.alloc hbb.size (.cells #[.int .i64 0, .int .i64 0, .int .i64 0, .int .i64 0, .int .i64 0, .int .i64 0, .int .i64 0, .int .i64 0, .int .i64 0, .int .i64 0] 47)
  clear hO hb1 hb0
  go_wp2_with fail
  go_ret2
  exact ⟨rfl, hb2⟩

set_option maxRecDepth 20000 in
set_option maxHeartbeats 2000000 in
theorem Write_ok (e : Int) (p : Option Addr) (n c : Nat) (ms : List Mb) (a0 a1 a2 a3 a4 a5 a6 a7 a8 : Int) (i0 : Nat) (hi0 : i0 < 3) (hk : chk e ms = true) (hw : okW [a0, a1, a2, a3, a4, a5, a6, a7, a8] = true) (w : World) (hr : RdM w p n c ms) (hn : n ≤ 5864062014805) :
    Calls Tryd.prog 7 #[.agg #[.int .i64 e, .slice p n c], .agg #[.int .i64 a0, .int .i64 a1, .int .i64 a2, .int .i64 a3, .int .i64 a4, .int .i64 a5, .int .i64 a6, .int .i64 a7, .int .i64 a8], .int .i64 (i0 : Int)] w fun r w' => r = .returned (.tuple #[.int .i64 (2 * thr [a0, a1, a2, a3, a4, a5, a6, a7, a8] i0 ms), .int .i64 0]) ∧ Below w.heap.size w w' := by
  have hb0 : Below w.heap.size w ((w.alloc (.cells #[.int .i64 e, .slice p n c] 31)).alloc (.cells #[.int .i64 a0, .int .i64 a1, .int .i64 a2, .int .i64 a3, .int .i64 a4, .int .i64 a5, .int .i64 a6, .int .i64 a7, .int .i64 a8] 25)) := ((Below.refl _ _).alloc (Nat.le_refl _) _).alloc (by simp) _
  have hA : ArrI 25 .i64 ((w.alloc (.cells #[.int .i64 e, .slice p n c] 31)).alloc (.cells #[.int .i64 a0, .int .i64 a1, .int .i64 a2, .int .i64 a3, .int .i64 a4, .int .i64 a5, .int .i64 a6, .int .i64 a7, .int .i64 a8] 25)) (w.heap.size + 1) [a0, a1, a2, a3, a4, a5, a6, a7, a8] := new_at (by simp) (nine_cells (t := 25) (w.alloc (.cells #[.int .i64 e, .slice p n c] 31)) a0 a1 a2 a3 a4 a5 a6 a7 a8)
  have hK : At 31 ((w.alloc (.cells #[.int .i64 e, .slice p n c] 31)).alloc (.cells #[.int .i64 a0, .int .i64 a1, .int .i64 a2, .int .i64 a3, .int .i64 a4, .int .i64 a5, .int .i64 a6, .int .i64 a7, .int .i64 a8] 25)) w.heap.size #[.int .i64 e, .slice p n c] := (At.new 31 w #[.int .i64 e, .slice p n c]).alloc _
  have hS : isSt (i0 : Int) = true := by unfold isSt; simp; omega
  have hO := askerOf_ok e p n c ms a0 a1 a2 a3 a4 a5 a6 a7 a8 (i0 : Int) _ (hr.below hb0) hn hk hw hS
  have h6 := chk_six hk
  have hp := chk_pos hk
  have hl := hr.len
  have hss : ∀ m ∈ ms, atSite m := fun m hm => by
    obtain ⟨j, hj, e⟩ := chk_site hk hm
    unfold atSite
    omega
  have hin := okW_in (B9 := [a0, a1, a2, a3, a4, a5, a6, a7, a8]) rfl hw
  clear hS hk hw
  go_enter Tryd.func7, Tryd.ntmps7
  go_wp2_with fail
  refine hO.mono ?_
  rintro r w1 ⟨rfl, hb1⟩
  have hbb := hb0.trans (hb1.mono hb0.size)
  have hba : Below w1.heap.size w1 (w1.alloc (.cells #[.int .i64 a0, .int .i64 a1, .int .i64 a2, .int .i64 a3, .int .i64 a4, .int .i64 a5, .int .i64 a6, .int .i64 a7, .int .i64 a8, .int .i64 (i0 : Int)] 47)) := (Below.refl _ _).alloc (Nat.le_refl _) _
  have hK1 := (hK.below hb1).below hba
  have hA1 := (hA.below hb1).below hba
  have hQ : ArrI 47 .i64 (w1.alloc (.cells #[.int .i64 a0, .int .i64 a1, .int .i64 a2, .int .i64 a3, .int .i64 a4, .int .i64 a5, .int .i64 a6, .int .i64 a7, .int .i64 a8, .int .i64 (i0 : Int)] 47)) w1.heap.size [a0, a1, a2, a3, a4, a5, a6, a7, a8, (i0 : Int)] := ArrI.new 47 .i64 w1 [a0, a1, a2, a3, a4, a5, a6, a7, a8, (i0 : Int)]
  have hb2 := hbb.trans (hba.mono hbb.size)
  have hr1 := hr.below hb2
  obtain ⟨c0, c1, c2, c3, c4, c5, c6, c7, c8, c9⟩ := ten hQ
  obtain ⟨k0, k1⟩ := hK1.two
  have hT := through_any a0 a1 a2 a3 a4 a5 a6 a7 a8 i0 hi0 p n c ms hss hin _ hr1 (by omega)
  clear hO hr hA hA1 hK hK1 hb0 hb1 hbb hba hr1 hQ
  go_wp2_with fail
  refine hT.mono ?_
  rintro r w2 ⟨rfl, hb3⟩
  go_wp2_with fail
  go_ret2
  exact ⟨rfl, hb2.trans (hb3.mono hb2.size)⟩

set_option maxRecDepth 20000 in
set_option maxHeartbeats 2000000 in
theorem Write_no (e : Int) (p : Option Addr) (n c : Nat) (ms : List Mb) (a0 a1 a2 a3 a4 a5 a6 a7 a8 : Int) (st ev : Int) (hev : mayR e ms [a0, a1, a2, a3, a4, a5, a6, a7, a8] st = ev) (h0 : ev ≠ 0) (w : World) (hr : RdM w p n c ms) (hn : n ≤ 5864062014805) :
    Calls Tryd.prog 7 #[.agg #[.int .i64 e, .slice p n c], .agg #[.int .i64 a0, .int .i64 a1, .int .i64 a2, .int .i64 a3, .int .i64 a4, .int .i64 a5, .int .i64 a6, .int .i64 a7, .int .i64 a8], .int .i64 st] w fun r w' => r = .returned (.tuple #[.int .i64 0, .int .i64 ev]) ∧ Below w.heap.size w w' := by
  have hb0 : Below w.heap.size w ((w.alloc (.cells #[.int .i64 e, .slice p n c] 31)).alloc (.cells #[.int .i64 a0, .int .i64 a1, .int .i64 a2, .int .i64 a3, .int .i64 a4, .int .i64 a5, .int .i64 a6, .int .i64 a7, .int .i64 a8] 25)) := ((Below.refl _ _).alloc (Nat.le_refl _) _).alloc (by simp) _
  have hA : ArrI 25 .i64 ((w.alloc (.cells #[.int .i64 e, .slice p n c] 31)).alloc (.cells #[.int .i64 a0, .int .i64 a1, .int .i64 a2, .int .i64 a3, .int .i64 a4, .int .i64 a5, .int .i64 a6, .int .i64 a7, .int .i64 a8] 25)) (w.heap.size + 1) [a0, a1, a2, a3, a4, a5, a6, a7, a8] := new_at (by simp) (nine_cells (t := 25) (w.alloc (.cells #[.int .i64 e, .slice p n c] 31)) a0 a1 a2 a3 a4 a5 a6 a7 a8)
  have hK : At 31 ((w.alloc (.cells #[.int .i64 e, .slice p n c] 31)).alloc (.cells #[.int .i64 a0, .int .i64 a1, .int .i64 a2, .int .i64 a3, .int .i64 a4, .int .i64 a5, .int .i64 a6, .int .i64 a7, .int .i64 a8] 25)) w.heap.size #[.int .i64 e, .slice p n c] := (At.new 31 w #[.int .i64 e, .slice p n c]).alloc _
  have hO := askerOf_no e p n c ms a0 a1 a2 a3 a4 a5 a6 a7 a8 st _ (hr.below hb0) hn ev hev h0
  have h0b : (ev != 0) = true := by simp [h0]
  clear hr hev h0 hA hK
  go_enter Tryd.func7, Tryd.ntmps7
  go_wp2_with fail
  refine hO.mono ?_
  rintro r w1 ⟨rfl, hb1⟩
  have hbb := hb0.trans (hb1.mono hb0.size)
  have hb2 := hbb.alloc hbb.size (.cells #[.int .i64 0, .int .i64 0, .int .i64 0, .int .i64 0, .int .i64 0, .int .i64 0, .int .i64 0, .int .i64 0, .int .i64 0, .int .i64 0] 47)
  clear hO hb1 hb0
  go_wp2_with fail
  go_ret2
  exact ⟨rfl, hb2⟩

end Go.Proofs.YtdjeafaaclhpkabDoor.M
