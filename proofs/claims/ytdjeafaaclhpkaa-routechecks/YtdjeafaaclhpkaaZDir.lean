/-
  Own text: contracts of route's Direct and of the reference's.
-/
import Derived.Test.YtdjeafaaclhpkaaZRefC
import Derived.Test.YtdjeafaaclhpkaaZAsk
import Derived.Test.YtdjeafaaclhpkaaYSort
namespace Go.Proofs.Ytdjeafaaclhpkaa.M
open Go.ChangeShapes Go.WideShapes Go.ChangeAt Go.RowKit

theorem ways_info : (Try.prog.info? 24).map (·.size) = some 9 := by kernel_rfl

theorem nine_set {t : TypeId} {w : World} {g B : Nat} {xs : List Int} (hl : xs.length = 9) (h : ArrI t .i64 w g xs) (hB : B ≤ g) (w0 : World) (hb : Below B w0 w) (a0 a1 a2 a3 a4 a5 a6 a7 a8 : Int) :
    ∃ W, W = (((((((((w.setCell ⟨g, 0, none⟩ (.int .i64 a0)).setCell ⟨g, 1, none⟩ (.int .i64 a1)).setCell ⟨g, 2, none⟩ (.int .i64 a2)).setCell ⟨g, 3, none⟩ (.int .i64 a3)).setCell ⟨g, 4, none⟩ (.int .i64 a4)).setCell ⟨g, 5, none⟩ (.int .i64 a5)).setCell ⟨g, 6, none⟩ (.int .i64 a6)).setCell ⟨g, 7, none⟩ (.int .i64 a7)).setCell ⟨g, 8, none⟩ (.int .i64 a8)) ∧ ArrI t .i64 W g [a0, a1, a2, a3, a4, a5, a6, a7, a8] ∧ Below B w0 W := by
  match xs, hl with
  | [x0, x1, x2, x3, x4, x5, x6, x7, x8], _ =>
    refine ⟨_, rfl, (((((((((h).set 0 a0).set 1 a1).set 2 a2).set 3 a3).set 4 a4).set 5 a5).set 6 a6).set 7 a7).set 8 a8, ?_⟩
    have e := Ex.setC (g := g) (w := w) [.int .i64 a0, .int .i64 a1, .int .i64 a2, .int .i64 a3, .int .i64 a4, .int .i64 a5, .int .i64 a6, .int .i64 a7, .int .i64 a8] 0 w (Ex.refl _ _)
    exact hb.trans (e.below hB h.lt)

theorem nine_free {t : TypeId} {w : World} {g : Nat} {xs : List Int} (h : ArrI t .i64 w g xs) : w.frozen? ⟨g, 0, none⟩ = false ∧ w.frozen? ⟨g, 1, none⟩ = false ∧ w.frozen? ⟨g, 2, none⟩ = false ∧ w.frozen? ⟨g, 3, none⟩ = false ∧ w.frozen? ⟨g, 4, none⟩ = false ∧ w.frozen? ⟨g, 5, none⟩ = false ∧ w.frozen? ⟨g, 6, none⟩ = false ∧ w.frozen? ⟨g, 7, none⟩ = false ∧ w.frozen? ⟨g, 8, none⟩ = false :=
  ⟨h.free 0, h.free 1, h.free 2, h.free 3, h.free 4, h.free 5, h.free 6, h.free 7, h.free 8⟩

theorem ex_set {g B : Nat} {w : World} {W : World} {t : TypeId} {xs : List Int} (hb : Below B w W) (h : ArrI t .i64 W g xs) (hB : B ≤ g) (i : Nat) (v : Value) : Below B w (W.setCell ⟨g, i, none⟩ v) :=
  hb.trans ((Ex.setC (g := g) (w := W) [v] i W (Ex.refl _ _)).below hB h.lt)

theorem wv_set (xs : List Int) (i j : Nat) : wv xs i j = xs.getD (i * 3 + j) 0 := rfl

set_option maxRecDepth 20000 in
set_option maxHeartbeats 2000000 in
theorem Direct_no (a0 a1 a2 a3 a4 a5 a6 a7 a8 : Int) (w : World) (h : okW [a0, a1, a2, a3, a4, a5, a6, a7, a8] = false) :
    Calls Try.prog 9 #[.agg #[.int .i64 a0, .int .i64 a1, .int .i64 a2, .int .i64 a3, .int .i64 a4, .int .i64 a5, .int .i64 a6, .int .i64 a7, .int .i64 a8]] w fun r w' => r = .returned (.tuple #[.agg #[.int .i64 0, .int .i64 0, .int .i64 0, .int .i64 0, .int .i64 0, .int .i64 0, .int .i64 0, .int .i64 0, .int .i64 0], .int .i64 1]) ∧ Below w.heap.size w w' := by
  have hA : ArrI 24 .i64 ((w.alloc (.cells #[.int .i64 a0, .int .i64 a1, .int .i64 a2, .int .i64 a3, .int .i64 a4, .int .i64 a5, .int .i64 a6, .int .i64 a7, .int .i64 a8] 24)).alloc (.cells #[.int .i64 0, .int .i64 0, .int .i64 0, .int .i64 0, .int .i64 0, .int .i64 0, .int .i64 0, .int .i64 0, .int .i64 0] 24)) w.heap.size [a0, a1, a2, a3, a4, a5, a6, a7, a8] := (nine_cells (t := 24) w a0 a1 a2 a3 a4 a5 a6 a7 a8).alloc _
  have hZ : ArrI 24 .i64 ((w.alloc (.cells #[.int .i64 a0, .int .i64 a1, .int .i64 a2, .int .i64 a3, .int .i64 a4, .int .i64 a5, .int .i64 a6, .int .i64 a7, .int .i64 a8] 24)).alloc (.cells #[.int .i64 0, .int .i64 0, .int .i64 0, .int .i64 0, .int .i64 0, .int .i64 0, .int .i64 0, .int .i64 0, .int .i64 0] 24)) (w.heap.size + 1) [0, 0, 0, 0, 0, 0, 0, 0, 0] := new_at (by simp) (ArrI.new 24 .i64 (w.alloc (.cells #[.int .i64 a0, .int .i64 a1, .int .i64 a2, .int .i64 a3, .int .i64 a4, .int .i64 a5, .int .i64 a6, .int .i64 a7, .int .i64 a8] 24)) [0, 0, 0, 0, 0, 0, 0, 0, 0])
  have hb0 : Below w.heap.size w ((w.alloc (.cells #[.int .i64 a0, .int .i64 a1, .int .i64 a2, .int .i64 a3, .int .i64 a4, .int .i64 a5, .int .i64 a6, .int .i64 a7, .int .i64 a8] 24)).alloc (.cells #[.int .i64 0, .int .i64 0, .int .i64 0, .int .i64 0, .int .i64 0, .int .i64 0, .int .i64 0, .int .i64 0, .int .i64 0] 24)) := ((Below.refl _ _).alloc (Nat.le_refl _) _).alloc (by simp) _
  have hC := Way_any a0 a1 a2 a3 a4 a5 a6 a7 a8 ((w.alloc (.cells #[.int .i64 a0, .int .i64 a1, .int .i64 a2, .int .i64 a3, .int .i64 a4, .int .i64 a5, .int .i64 a6, .int .i64 a7, .int .i64 a8] 24)).alloc (.cells #[.int .i64 0, .int .i64 0, .int .i64 0, .int .i64 0, .int .i64 0, .int .i64 0, .int .i64 0, .int .i64 0, .int .i64 0] 24))
  rw [h] at hC
  unfold wayV at hC
  simp only [Bool.false_eq_true, if_false] at hC
  clear h
  go_enter Try.func9, Try.ntmps9
  go_wp2_with fail
  refine hC.mono ?_
  rintro r w1 ⟨rfl, hb1⟩
  replace hZ := hZ.below hb1
  have hbb := hb0.trans (hb1.mono hb0.size)
  obtain ⟨f0, f1, f2, f3, f4, f5, f6, f7, f8⟩ := nine_free hZ
  obtain ⟨z0, z1, z2, z3, z4, z5, z6, z7, z8⟩ := nine hZ
  clear hA hb1 hb0 hC
  go_wp2_with fail
  obtain ⟨W, hW1, hY, hbW⟩ := nine_set rfl hZ (Nat.le_succ _) w hbb 0 0 0 0 0 0 0 0 0
  rw [← hW1]
  exact bodyPost_ret (results_row_tmp (p := 2) (u := 3) rfl _ _ (w.heap.size + 1) _ _ _ rfl hY Try.underlying24 rfl ways_info) rfl ⟨rfl, hbW⟩

set_option maxRecDepth 20000 in
set_option maxHeartbeats 2000000 in
theorem rDirect_no (a0 a1 a2 a3 a4 a5 a6 a7 a8 : Int) (w : World) (h : okW [a0, a1, a2, a3, a4, a5, a6, a7, a8] = false) :
    Calls Try.prog 10 #[.agg #[.int .i64 a0, .int .i64 a1, .int .i64 a2, .int .i64 a3, .int .i64 a4, .int .i64 a5, .int .i64 a6, .int .i64 a7, .int .i64 a8]] w fun r w' => r = .returned (.tuple #[.agg #[.int .i64 0, .int .i64 0, .int .i64 0, .int .i64 0, .int .i64 0, .int .i64 0, .int .i64 0, .int .i64 0, .int .i64 0], .int .i64 1]) ∧ Below w.heap.size w w' := by
  have hA : ArrI 24 .i64 ((w.alloc (.cells #[.int .i64 a0, .int .i64 a1, .int .i64 a2, .int .i64 a3, .int .i64 a4, .int .i64 a5, .int .i64 a6, .int .i64 a7, .int .i64 a8] 24)).alloc (.cells #[.int .i64 0, .int .i64 0, .int .i64 0, .int .i64 0, .int .i64 0, .int .i64 0, .int .i64 0, .int .i64 0, .int .i64 0] 24)) w.heap.size [a0, a1, a2, a3, a4, a5, a6, a7, a8] := (nine_cells (t := 24) w a0 a1 a2 a3 a4 a5 a6 a7 a8).alloc _
  have hZ : ArrI 24 .i64 ((w.alloc (.cells #[.int .i64 a0, .int .i64 a1, .int .i64 a2, .int .i64 a3, .int .i64 a4, .int .i64 a5, .int .i64 a6, .int .i64 a7, .int .i64 a8] 24)).alloc (.cells #[.int .i64 0, .int .i64 0, .int .i64 0, .int .i64 0, .int .i64 0, .int .i64 0, .int .i64 0, .int .i64 0, .int .i64 0] 24)) (w.heap.size + 1) [0, 0, 0, 0, 0, 0, 0, 0, 0] := new_at (by simp) (ArrI.new 24 .i64 (w.alloc (.cells #[.int .i64 a0, .int .i64 a1, .int .i64 a2, .int .i64 a3, .int .i64 a4, .int .i64 a5, .int .i64 a6, .int .i64 a7, .int .i64 a8] 24)) [0, 0, 0, 0, 0, 0, 0, 0, 0])
  have hb0 : Below w.heap.size w ((w.alloc (.cells #[.int .i64 a0, .int .i64 a1, .int .i64 a2, .int .i64 a3, .int .i64 a4, .int .i64 a5, .int .i64 a6, .int .i64 a7, .int .i64 a8] 24)).alloc (.cells #[.int .i64 0, .int .i64 0, .int .i64 0, .int .i64 0, .int .i64 0, .int .i64 0, .int .i64 0, .int .i64 0, .int .i64 0] 24)) := ((Below.refl _ _).alloc (Nat.le_refl _) _).alloc (by simp) _
  have hC := rWay_any a0 a1 a2 a3 a4 a5 a6 a7 a8 ((w.alloc (.cells #[.int .i64 a0, .int .i64 a1, .int .i64 a2, .int .i64 a3, .int .i64 a4, .int .i64 a5, .int .i64 a6, .int .i64 a7, .int .i64 a8] 24)).alloc (.cells #[.int .i64 0, .int .i64 0, .int .i64 0, .int .i64 0, .int .i64 0, .int .i64 0, .int .i64 0, .int .i64 0, .int .i64 0] 24))
  rw [h] at hC
  unfold wayV at hC
  simp only [Bool.false_eq_true, if_false] at hC
  clear h
  go_enter Try.func10, Try.ntmps10
  go_wp2_with fail
  refine hC.mono ?_
  rintro r w1 ⟨rfl, hb1⟩
  replace hZ := hZ.below hb1
  have hbb := hb0.trans (hb1.mono hb0.size)
  obtain ⟨f0, f1, f2, f3, f4, f5, f6, f7, f8⟩ := nine_free hZ
  obtain ⟨z0, z1, z2, z3, z4, z5, z6, z7, z8⟩ := nine hZ
  clear hA hb1 hb0 hC
  go_wp2_with fail
  obtain ⟨W, hW1, hY, hbW⟩ := nine_set rfl hZ (Nat.le_succ _) w hbb 0 0 0 0 0 0 0 0 0
  rw [← hW1]
  exact bodyPost_ret (results_row_tmp (p := 2) (u := 3) rfl _ _ (w.heap.size + 1) _ _ _ rfl hY Try.underlying24 rfl ways_info) rfl ⟨rfl, hbW⟩

/-- All are 0 to 1000, hidden from the walk. -/
def HidW (xs : List Int) : Prop := Hid (inW xs)

set_option maxRecDepth 20000 in
set_option maxHeartbeats 2000000 in
theorem Direct_ok (a0 a1 a2 a3 a4 a5 a6 a7 a8 : Int) (w : World) (h : okW [a0, a1, a2, a3, a4, a5, a6, a7, a8] = true) (d0 d1 d2 d3 d4 d5 d6 d7 d8 : Int) (hd : rO 3 [a0, a1, a2, a3, a4, a5, a6, a7, a8] = [d0, d1, d2, d3, d4, d5, d6, d7, d8]) :
    Calls Try.prog 9 #[.agg #[.int .i64 a0, .int .i64 a1, .int .i64 a2, .int .i64 a3, .int .i64 a4, .int .i64 a5, .int .i64 a6, .int .i64 a7, .int .i64 a8]] w fun r w' => r = .returned (.tuple #[.agg #[.int .i64 d0, .int .i64 d1, .int .i64 d2, .int .i64 d3, .int .i64 d4, .int .i64 d5, .int .i64 d6, .int .i64 d7, .int .i64 d8], .int .i64 0]) ∧ Below w.heap.size w w' := by
  have hA : ArrI 24 .i64 ((w.alloc (.cells #[.int .i64 a0, .int .i64 a1, .int .i64 a2, .int .i64 a3, .int .i64 a4, .int .i64 a5, .int .i64 a6, .int .i64 a7, .int .i64 a8] 24)).alloc (.cells #[.int .i64 0, .int .i64 0, .int .i64 0, .int .i64 0, .int .i64 0, .int .i64 0, .int .i64 0, .int .i64 0, .int .i64 0] 24)) w.heap.size [a0, a1, a2, a3, a4, a5, a6, a7, a8] := (nine_cells (t := 24) w a0 a1 a2 a3 a4 a5 a6 a7 a8).alloc _
  have hZ : ArrI 24 .i64 ((w.alloc (.cells #[.int .i64 a0, .int .i64 a1, .int .i64 a2, .int .i64 a3, .int .i64 a4, .int .i64 a5, .int .i64 a6, .int .i64 a7, .int .i64 a8] 24)).alloc (.cells #[.int .i64 0, .int .i64 0, .int .i64 0, .int .i64 0, .int .i64 0, .int .i64 0, .int .i64 0, .int .i64 0, .int .i64 0] 24)) (w.heap.size + 1) [0, 0, 0, 0, 0, 0, 0, 0, 0] := new_at (by simp) (ArrI.new 24 .i64 (w.alloc (.cells #[.int .i64 a0, .int .i64 a1, .int .i64 a2, .int .i64 a3, .int .i64 a4, .int .i64 a5, .int .i64 a6, .int .i64 a7, .int .i64 a8] 24)) [0, 0, 0, 0, 0, 0, 0, 0, 0])
  have hb0 : Below w.heap.size w ((w.alloc (.cells #[.int .i64 a0, .int .i64 a1, .int .i64 a2, .int .i64 a3, .int .i64 a4, .int .i64 a5, .int .i64 a6, .int .i64 a7, .int .i64 a8] 24)).alloc (.cells #[.int .i64 0, .int .i64 0, .int .i64 0, .int .i64 0, .int .i64 0, .int .i64 0, .int .i64 0, .int .i64 0, .int .i64 0] 24)) := ((Below.refl _ _).alloc (Nat.le_refl _) _).alloc (by simp) _
  have hC := Way_any a0 a1 a2 a3 a4 a5 a6 a7 a8 ((w.alloc (.cells #[.int .i64 a0, .int .i64 a1, .int .i64 a2, .int .i64 a3, .int .i64 a4, .int .i64 a5, .int .i64 a6, .int .i64 a7, .int .i64 a8] 24)).alloc (.cells #[.int .i64 0, .int .i64 0, .int .i64 0, .int .i64 0, .int .i64 0, .int .i64 0, .int .i64 0, .int .i64 0, .int .i64 0] 24))
  rw [h] at hC
  unfold wayV at hC
  simp only [if_true] at hC
  have HW0 : HidW [a0, a1, a2, a3, a4, a5, a6, a7, a8] := by
    obtain ⟨x, y, z, hx, hy, hz, e⟩ := okW_shape (xs := [a0, a1, a2, a3, a4, a5, a6, a7, a8]) rfl h
    unfold HidW Hid
    rw [e]
    exact inW_wy x y z hx hy hz
  have HL0 : Hid ([a0, a1, a2, a3, a4, a5, a6, a7, a8].length = 9) := rfl
  have HD : Hid (rO 3 [a0, a1, a2, a3, a4, a5, a6, a7, a8] = [d0, d1, d2, d3, d4, d5, d6, d7, d8]) := hd
  clear hd h
  generalize [a0, a1, a2, a3, a4, a5, a6, a7, a8] = xs at *
  go_enter Try.func9, Try.ntmps9
  go_wp2_with fail
  refine hC.mono ?_
  rintro r w1 ⟨rfl, hb1⟩
  replace hZ := hZ.below hb1
  replace hA := hA.below hb1
  have hbb := hb0.trans (hb1.mono hb0.size)
  clear hb1 hb0 hC
  go_wp2_with fail
  generalize hg : w.heap.size = g at *
  go_loopw [14] (fun i wr => ∃ (o : Nat) (V : List Int), o ≤ 3 ∧ i = .int .i64 o ∧ V.length = 9 ∧ HidW V ∧ ArrI 24 .i64 wr g V ∧ ArrI 24 .i64 wr (g + 1) [0, 0, 0, 0, 0, 0, 0, 0, 0] ∧ Below g w wr ∧ Hid (rO o xs = V)) (fun i _ => 3 - (intOf i).toNat)
  case atStart => exact ⟨0, xs, by decide, rfl, HL0.out, HW0, hA, hZ, hbb, rfl⟩
  case round =>
    clear hA hZ hbb HW0 HL0
    obtain ⟨o, VO, ho, rfl, hlO, HWO, hA, hZ, hb, HO⟩ := hrel
    by_cases hoo : o < 3
    · have hoi : (o : Int) < 3 := by omega
      go_wp2_with fail
      obtain ⟨w5, hw5⟩ : ∃ x, x = wr := ⟨wr, rfl⟩
      go_loopw [17] (fun i wr => ∃ (a : Nat) (V : List Int), a ≤ 3 ∧ i = .int .i64 a ∧ V.length = 9 ∧ HidW V ∧ ArrI 24 .i64 wr g V ∧ ArrI 24 .i64 wr (g + 1) [0, 0, 0, 0, 0, 0, 0, 0, 0] ∧ Below g w wr ∧ Hid (rA o a VO = V)) (fun i _ => 3 - (intOf i).toNat)
      case atStart => exact ⟨0, VO, by decide, rfl, hlO, HWO, hA, hZ, hb, rfl⟩
      case round =>
        clear hA hZ hb HWO hlO hw5
        obtain ⟨a, VA, ha, rfl, hlA, HWA, hA, hZ, hb, HA⟩ := hrel
        by_cases haa : a < 3
        · have hai : (a : Int) < 3 := by omega
          go_wp2_with fail
          obtain ⟨w6, hw6⟩ : ∃ x, x = wr := ⟨wr, rfl⟩
          go_loopw [20] (fun i wr => ∃ (b : Nat) (V : List Int), b ≤ 3 ∧ i = .int .i64 b ∧ V.length = 9 ∧ HidW V ∧ ArrI 24 .i64 wr g V ∧ ArrI 24 .i64 wr (g + 1) [0, 0, 0, 0, 0, 0, 0, 0, 0] ∧ Below g w wr ∧ Hid (rB o a b VA = V)) (fun i _ => 3 - (intOf i).toNat)
          case atStart => exact ⟨0, VA, by decide, rfl, hlA, HWA, hA, hZ, hb, rfl⟩
          case round =>
            clear hA hZ hb HWA hlA hw6
            obtain ⟨b, VB, hbq, rfl, hlB, HWB, hA, hZ, hb, HB⟩ := hrel
            by_cases hbb : b < 3
            · have hbi : (b : Int) < 3 := by omega
              have x1 := hA.cell (i := a * 3 + b) (by omega)
              have x2 := hA.cell (i := a * 3 + o) (by omega)
              have x3 := hA.cell (i := o * 3 + b) (by omega)
              have fz := hA.free (a * 3 + b)
              have v1 := HWB.out.at a b
              have v2 := HWB.out.at a o
              have v3 := HWB.out.at o b
              have HN : Hid (rB o a (b + 1) VA = VB.set (a * 3 + b) (min (wv VB a b) (wv VB a o + wv VB o b))) := by
                unfold Hid
                rw [rB, HB.out]
                rfl
              have HWN : HidW (VB.set (a * 3 + b) (min (wv VB a b) (wv VB a o + wv VB o b))) := HWB.out.rlx o a b
              have hAn := hA.set (a * 3 + b) (min (wv VB a b) (wv VB a o + wv VB o b))
              have hZn := hZ.other g (a * 3 + b) (.int .i64 (min (wv VB a b) (wv VB a o + wv VB o b))) (by omega)
              have hbn := ex_set hb hA (Nat.le_refl _) (a * 3 + b) (.int .i64 (min (wv VB a b) (wv VB a o + wv VB o b)))
              have hln : (VB.set (a * 3 + b) (min (wv VB a b) (wv VB a o + wv VB o b))).length = 9 := by rw [List.length_set]; exact hlB
              change _ = some (Value.int .i64 (wv VB a b)) at x1
              change _ = some (Value.int .i64 (wv VB a o)) at x2
              change _ = some (Value.int .i64 (wv VB o b)) at x3
              have hwr : IntKind.i64.wrap (wv VB a o + wv VB o b) = wv VB a o + wv VB o b := by rw [IntKind.wrap_i64]; omega
              generalize VB.set (a * 3 + b) (min (wv VB a b) (wv VB a o + wv VB o b)) = VN at *
              generalize wv VB a b = X at *
              generalize wv VB a o = Y at *
              generalize wv VB o b = Z at *
              have hme : min X (Y + Z) = (if Y + Z < X then Y + Z else X) := by split <;> omega
              rw [hme] at hAn hZn hbn
              clear HB hA hZ hb HWB hlB v1 v2 v3 hme
              go_wp2_with fail
              go_region
              go_wp2_with fail
              go_roundw
              case rel => exact ⟨b + 1, VN, by omega, by go_num, hln, HWN, hAn, hZn, ⟨hbn.os, hbn.tape, hbn.output, hbn.size, hbn.block⟩, HN⟩
              case measure => simp [intOf]; omega
            · obtain rfl : b = 3 := by omega
              have HN : Hid (rA o (a + 1) VO = VB) := by unfold Hid; rw [rA, HA.out]; exact HB.out
              go_wp2_with fail
              go_roundw
              case rel => exact ⟨a + 1, VB, by omega, by go_num, hlB, HWB, hA, hZ, hb, HN⟩
              case measure => simp [intOf]; omega
        · obtain rfl : a = 3 := by omega
          have HN : Hid (rO (o + 1) xs = VA) := by unfold Hid; rw [rO, HO.out]; exact HA.out
          go_wp2_with fail
          go_roundw
          case rel => exact ⟨o + 1, VA, by omega, by go_num, hlA, HWA, hA, hZ, hb, HN⟩
          case measure => simp [intOf]; omega
    · obtain rfl : o = 3 := by omega
      have hfin := HO.out.symm.trans HD.out
      clear HD
      rw [hfin] at hA
      obtain ⟨c0, c1, c2, c3, c4, c5, c6, c7, c8⟩ := nine hA
      obtain ⟨f0, f1, f2, f3, f4, f5, f6, f7, f8⟩ := nine_free hZ
      obtain ⟨z0, z1, z2, z3, z4, z5, z6, z7, z8⟩ := nine hZ
      go_wp2_with fail
      obtain ⟨W, hW1, hY, hbW⟩ := nine_set rfl hZ (Nat.le_succ _) w hb d0 d1 d2 d3 d4 d5 d6 d7 d8
      rw [← hW1]
      exact bodyPost_ret (results_row_tmp (p := 2) (u := 3) rfl _ _ (g + 1) _ _ _ rfl hY Try.underlying24 rfl ways_info) rfl ⟨rfl, by first | exact hbW | (rw [hg]; exact hbW)⟩


set_option maxRecDepth 20000 in
set_option maxHeartbeats 2000000 in
theorem rDirect_ok (a0 a1 a2 a3 a4 a5 a6 a7 a8 : Int) (w : World) (h : okW [a0, a1, a2, a3, a4, a5, a6, a7, a8] = true) (d0 d1 d2 d3 d4 d5 d6 d7 d8 : Int) (hd : qI [a0, a1, a2, a3, a4, a5, a6, a7, a8] 3 [a0, a1, a2, a3, a4, a5, a6, a7, a8] = [d0, d1, d2, d3, d4, d5, d6, d7, d8]) :
    Calls Try.prog 10 #[.agg #[.int .i64 a0, .int .i64 a1, .int .i64 a2, .int .i64 a3, .int .i64 a4, .int .i64 a5, .int .i64 a6, .int .i64 a7, .int .i64 a8]] w fun r w' => r = .returned (.tuple #[.agg #[.int .i64 d0, .int .i64 d1, .int .i64 d2, .int .i64 d3, .int .i64 d4, .int .i64 d5, .int .i64 d6, .int .i64 d7, .int .i64 d8], .int .i64 0]) ∧ Below w.heap.size w w' := by
  have hA : ArrI 24 .i64 ((w.alloc (.cells #[.int .i64 a0, .int .i64 a1, .int .i64 a2, .int .i64 a3, .int .i64 a4, .int .i64 a5, .int .i64 a6, .int .i64 a7, .int .i64 a8] 24)).alloc (.cells #[.int .i64 0, .int .i64 0, .int .i64 0, .int .i64 0, .int .i64 0, .int .i64 0, .int .i64 0, .int .i64 0, .int .i64 0] 24)) w.heap.size [a0, a1, a2, a3, a4, a5, a6, a7, a8] := (nine_cells (t := 24) w a0 a1 a2 a3 a4 a5 a6 a7 a8).alloc _
  have hZ : ArrI 24 .i64 ((w.alloc (.cells #[.int .i64 a0, .int .i64 a1, .int .i64 a2, .int .i64 a3, .int .i64 a4, .int .i64 a5, .int .i64 a6, .int .i64 a7, .int .i64 a8] 24)).alloc (.cells #[.int .i64 0, .int .i64 0, .int .i64 0, .int .i64 0, .int .i64 0, .int .i64 0, .int .i64 0, .int .i64 0, .int .i64 0] 24)) (w.heap.size + 1) [0, 0, 0, 0, 0, 0, 0, 0, 0] := new_at (by simp) (ArrI.new 24 .i64 (w.alloc (.cells #[.int .i64 a0, .int .i64 a1, .int .i64 a2, .int .i64 a3, .int .i64 a4, .int .i64 a5, .int .i64 a6, .int .i64 a7, .int .i64 a8] 24)) [0, 0, 0, 0, 0, 0, 0, 0, 0])
  have hb0 : Below w.heap.size w ((w.alloc (.cells #[.int .i64 a0, .int .i64 a1, .int .i64 a2, .int .i64 a3, .int .i64 a4, .int .i64 a5, .int .i64 a6, .int .i64 a7, .int .i64 a8] 24)).alloc (.cells #[.int .i64 0, .int .i64 0, .int .i64 0, .int .i64 0, .int .i64 0, .int .i64 0, .int .i64 0, .int .i64 0, .int .i64 0] 24)) := ((Below.refl _ _).alloc (Nat.le_refl _) _).alloc (by simp) _
  have hC := rWay_any a0 a1 a2 a3 a4 a5 a6 a7 a8 ((w.alloc (.cells #[.int .i64 a0, .int .i64 a1, .int .i64 a2, .int .i64 a3, .int .i64 a4, .int .i64 a5, .int .i64 a6, .int .i64 a7, .int .i64 a8] 24)).alloc (.cells #[.int .i64 0, .int .i64 0, .int .i64 0, .int .i64 0, .int .i64 0, .int .i64 0, .int .i64 0, .int .i64 0, .int .i64 0] 24))
  rw [h] at hC
  unfold wayV at hC
  simp only [if_true] at hC
  have HW0 : HidW [a0, a1, a2, a3, a4, a5, a6, a7, a8] := by
    obtain ⟨x, y, z, hx, hy, hz, e⟩ := okW_shape (xs := [a0, a1, a2, a3, a4, a5, a6, a7, a8]) rfl h
    unfold HidW Hid
    rw [e]
    exact inW_wy x y z hx hy hz
  have HL0 : Hid ([a0, a1, a2, a3, a4, a5, a6, a7, a8].length = 9) := rfl
  have HD : Hid (qI [a0, a1, a2, a3, a4, a5, a6, a7, a8] 3 [a0, a1, a2, a3, a4, a5, a6, a7, a8] = [d0, d1, d2, d3, d4, d5, d6, d7, d8]) := hd
  clear hd h
  go_enter Try.func10, Try.ntmps10
  go_wp2_with fail
  refine hC.mono ?_
  rintro r w1 ⟨rfl, hb1⟩
  replace hZ := hZ.below hb1
  replace hA := hA.below hb1
  have hbb := hb0.trans (hb1.mono hb0.size)
  clear hb1 hb0 hC
  obtain ⟨c0, c1, c2, c3, c4, c5, c6, c7, c8⟩ := nine hA
  have hU : ArrI 24 .i64 (w1.alloc (.cells #[.int .i64 a0, .int .i64 a1, .int .i64 a2, .int .i64 a3, .int .i64 a4, .int .i64 a5, .int .i64 a6, .int .i64 a7, .int .i64 a8] 24)) w1.heap.size [a0, a1, a2, a3, a4, a5, a6, a7, a8] := nine_cells (t := 24) w1 a0 a1 a2 a3 a4 a5 a6 a7 a8
  have hA2 := hA.alloc (.cells #[.int .i64 a0, .int .i64 a1, .int .i64 a2, .int .i64 a3, .int .i64 a4, .int .i64 a5, .int .i64 a6, .int .i64 a7, .int .i64 a8] 24)
  have hZ2 := hZ.alloc (.cells #[.int .i64 a0, .int .i64 a1, .int .i64 a2, .int .i64 a3, .int .i64 a4, .int .i64 a5, .int .i64 a6, .int .i64 a7, .int .i64 a8] 24)
  have hb2 := hbb.alloc hbb.size (.cells #[.int .i64 a0, .int .i64 a1, .int .i64 a2, .int .i64 a3, .int .i64 a4, .int .i64 a5, .int .i64 a6, .int .i64 a7, .int .i64 a8] 24)
  have hgu : w.heap.size + 1 < w1.heap.size := hZ.lt
  generalize [a0, a1, a2, a3, a4, a5, a6, a7, a8] = xs at *
  clear hA hZ hbb
  go_wp2_with fail
  generalize (w1.alloc (.cells #[.int .i64 a0, .int .i64 a1, .int .i64 a2, .int .i64 a3, .int .i64 a4, .int .i64 a5, .int .i64 a6, .int .i64 a7, .int .i64 a8] 24)) = w2 at *
  generalize hhu : w1.heap.size = u at *
  generalize hg : w.heap.size = g at *
  clear c0 c1 c2 c3 c4 c5 c6 c7 c8
  go_loopw [14] (fun i wr => ∃ (o : Nat) (V : List Int), o ≤ 3 ∧ i = .int .i64 o ∧ V.length = 9 ∧ HidW V ∧ ArrI 24 .i64 wr u V ∧ ArrI 24 .i64 wr g xs ∧ ArrI 24 .i64 wr (g + 1) [0, 0, 0, 0, 0, 0, 0, 0, 0] ∧ Below g w wr ∧ Hid (qI xs o xs = V)) (fun i _ => 3 - (intOf i).toNat)
  case atStart => exact ⟨0, xs, by decide, rfl, HL0.out, HW0, hU, hA2, hZ2, hb2, rfl⟩
  case round =>
    clear hU hA2 hZ2 hb2
    obtain ⟨o, VO, ho, rfl, hlO, HWO, hU, hA, hZ, hb, HO⟩ := hrel
    by_cases hoo : o < 3
    · have hoi : (o : Int) < 3 := by omega
      go_wp2_with fail
      obtain ⟨w5, hw5⟩ : ∃ x, x = wr := ⟨wr, rfl⟩
      go_loopw [17] (fun i wr => ∃ (a : Nat) (V : List Int), a ≤ 3 ∧ i = .int .i64 a ∧ V.length = 9 ∧ HidW V ∧ ArrI 24 .i64 wr u V ∧ ArrI 24 .i64 wr g xs ∧ ArrI 24 .i64 wr (g + 1) [0, 0, 0, 0, 0, 0, 0, 0, 0] ∧ Below g w wr ∧ Hid (qJ xs o a VO = V)) (fun i _ => 3 - (intOf i).toNat)
      case atStart => exact ⟨0, VO, by decide, rfl, hlO, HWO, hU, hA, hZ, hb, rfl⟩
      case round =>
        clear hU hA hZ hb HWO hlO hw5
        obtain ⟨a, VA, ha, rfl, hlA, HWA, hU, hA, hZ, hb, HA⟩ := hrel
        by_cases haa : a < 3
        · have hai : (a : Int) < 3 := by omega
          go_wp2_with fail
          obtain ⟨w6, hw6⟩ : ∃ x, x = wr := ⟨wr, rfl⟩
          go_loopw [20] (fun i wr => ∃ (b : Nat) (V : List Int), b ≤ 3 ∧ i = .int .i64 b ∧ V.length = 9 ∧ HidW V ∧ ArrI 24 .i64 wr u V ∧ ArrI 24 .i64 wr g xs ∧ ArrI 24 .i64 wr (g + 1) [0, 0, 0, 0, 0, 0, 0, 0, 0] ∧ Below g w wr ∧ Hid (qK xs o a b VA = V)) (fun i _ => 3 - (intOf i).toNat)
          case atStart => exact ⟨0, VA, by decide, rfl, hlA, HWA, hU, hA, hZ, hb, rfl⟩
          case round =>
            clear hU hA hZ hb HWA hlA hw6
            obtain ⟨b, VB, hbq, rfl, hlB, HWB, hU, hA, hZ, hb, HB⟩ := hrel
            by_cases hbb : b < 3
            · have hbi : (b : Int) < 3 := by omega
              have x1 := hU.cell (i := o * 3 + a) (by omega)
              have x2 := hA.cell (i := o * 3 + b) (by rw [HL0.out]; omega)
              have x3 := hA.cell (i := b * 3 + a) (by rw [HL0.out]; omega)
              have fz := hU.free (o * 3 + a)
              have v1 := HWB.out.at o a
              have v2 := HW0.out.at o b
              have v3 := HW0.out.at b a
              have HN : Hid (qK xs o a (b + 1) VA = VB.set (o * 3 + a) (min (wv VB o a) (wv xs o b + wv xs b a))) := by
                unfold Hid
                rw [qK, HB.out]
                rfl
              change _ = some (Value.int .i64 (wv VB o a)) at x1
              change _ = some (Value.int .i64 (wv xs o b)) at x2
              change _ = some (Value.int .i64 (wv xs b a)) at x3
              have HWN : HidW (VB.set (o * 3 + a) (min (wv VB o a) (wv xs o b + wv xs b a))) := HW0.out.qS HWB.out o a b
              have hwr : IntKind.i64.wrap (wv xs o b + wv xs b a) = wv xs o b + wv xs b a := by rw [IntKind.wrap_i64]; omega
              have hself : wv VB o a ≤ wv xs o b + wv xs b a → VB.set (o * 3 + a) (min (wv VB o a) (wv xs o b + wv xs b a)) = VB := by
                intro hle
                rw [Int.min_eq_left hle]
                unfold wv
                rw [List.getD_eq_getElem?_getD, List.getElem?_eq_getElem (by omega)]
                exact List.set_getElem_self _
              generalize wv VB o a = X at *
              generalize wv xs o b = Y at *
              generalize wv xs b a = Z at *
              by_cases hlt : Y + Z < X
              · have hmi : min X (Y + Z) = Y + Z := by omega
                rw [hmi] at HN HWN
                have hAn := hU.set (o * 3 + a) (Y + Z)
                have hZn := hZ.other u (o * 3 + a) (.int .i64 (Y + Z)) (by omega)
                have hAm := hA.other u (o * 3 + a) (.int .i64 (Y + Z)) (by omega)
                have hbn := ex_set hb hU (by omega) (o * 3 + a) (.int .i64 (Y + Z))
                have hln : (VB.set (o * 3 + a) (Y + Z)).length = 9 := by rw [List.length_set]; exact hlB
                have hltd : decide (Y + Z < X) = true := decide_eq_true hlt
                clear HB hU hA hZ hb HWB hlB v1 v2 v3 hmi hself hlt
                go_wp2_with fail
                go_quiet (fail)
                go_wp2_with fail
                go_roundw
                case rel => exact ⟨b + 1, VB.set (o * 3 + a) (Y + Z), by omega, by go_num, hln, HWN, hAn, hAm, hZn, ⟨hbn.os, hbn.tape, hbn.output, hbn.size, hbn.block⟩, HN⟩
                case measure => simp [intOf]; omega
              · have hs2 := hself (by omega)
                rw [hs2] at HN
                have hltd : decide (Y + Z < X) = false := decide_eq_false hlt
                clear HB hs2 hself v1 v2 v3 hlt
                go_wp2_with fail
                go_quiet (fail)
                go_wp2_with fail
                go_roundw
                case rel => exact ⟨b + 1, VB, by omega, by go_num, hlB, HWB, hU.drewN nq, hA.drewN nq, hZ.drewN nq, below_drewN hb nq, HN⟩
                case measure => simp [intOf]; omega
            · obtain rfl : b = 3 := by omega
              have HN : Hid (qJ xs o (a + 1) VO = VB) := by unfold Hid; rw [qJ, HA.out]; exact HB.out
              go_wp2_with fail
              go_roundw
              case rel => exact ⟨a + 1, VB, by omega, by go_num, hlB, HWB, hU, hA, hZ, hb, HN⟩
              case measure => simp [intOf]; omega
        · obtain rfl : a = 3 := by omega
          have HN : Hid (qI xs (o + 1) xs = VA) := by unfold Hid; rw [qI, HO.out]; exact HA.out
          go_wp2_with fail
          go_roundw
          case rel => exact ⟨o + 1, VA, by omega, by go_num, hlA, HWA, hU, hA, hZ, hb, HN⟩
          case measure => simp [intOf]; omega
    · obtain rfl : o = 3 := by omega
      have hfin := HO.out.symm.trans HD.out
      clear HD
      rw [hfin] at hU
      obtain ⟨c0, c1, c2, c3, c4, c5, c6, c7, c8⟩ := nine hU
      obtain ⟨f0, f1, f2, f3, f4, f5, f6, f7, f8⟩ := nine_free hZ
      obtain ⟨z0, z1, z2, z3, z4, z5, z6, z7, z8⟩ := nine hZ
      go_wp2_with fail
      obtain ⟨W, hW1, hY, hbW⟩ := nine_set rfl hZ (Nat.le_succ _) w hb d0 d1 d2 d3 d4 d5 d6 d7 d8
      rw [← hW1]
      exact bodyPost_ret (results_row_tmp (p := 2) (u := 3) rfl _ _ (g + 1) _ _ _ rfl hY Try.underlying24 rfl ways_info) rfl ⟨rfl, by first | exact hbW | (rw [hg]; exact hbW)⟩

end Go.Proofs.Ytdjeafaaclhpkaa.M
