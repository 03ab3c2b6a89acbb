/-
  Own text: contracts of route's Read and of the reference's.
-/
import Derived.Test.YtdjeafaaclhpkaaZPub
import Derived.Test.YtdjeafaaclhpkaaYPlace
namespace Go.Proofs.Ytdjeafaaclhpkaa.M
open Go.ChangeShapes Go.WideShapes Go.ChangeAt Go.RowKit

set_option maxRecDepth 20000 in
set_option maxHeartbeats 1000000 in
theorem rPlace_any (e : Int) (p : Option Addr) (n c : Nat) (ms : List Mb) (node : Int) (w : World) (hr : RdM w p n c ms) (hn : n ≤ 5864062014805) :
    Calls Try.prog 38 #[.agg #[.int .i64 e, .slice p n c], .int .i64 node] w fun r w' => r = .returned (.int .i64 (plc e ms node)) ∧ Below w.heap.size w w' := by
  have hb0 : Below w.heap.size w (w.alloc (.cells #[.int .i64 e, .slice p n c] 33)) := (Below.refl _ _).alloc (Nat.le_refl _) _
  have hl := hr.len
  have hr0 := hr.below hb0
  have hC := rCheck_any e p n c ms _ hr0 hn
  have hv : (w.alloc (.cells #[.int .i64 e, .slice p n c] 33)).cell? ⟨w.heap.size, 1, none⟩ = some (.slice p n c) := by simp
  unfold chkV at hC
  go_enter Try.func38, Try.ntmps38
  go_wp2_with fail
  generalize (w.alloc (.cells #[.int .i64 e, .slice p n c] 33)) = w0 at *
  refine hC.mono ?_
  rintro r w1 ⟨rfl, hb1⟩
  have hB1 := hb0.trans (hb1.mono hb0.size)
  replace hv := (hb1.cell (p := ⟨w.heap.size, 1, none⟩) (World.block_lt_of_cell? _ _ hv)).trans hv
  have hr1 := hr0.below hb1
  clear hC hr hr0 hb0 hb1
  cases hk : chk e ms with
  | false =>
    have HN : Hid (plc e ms node = -1) := by unfold Hid plc; rw [hk]; rfl
    clear hk
    simp only [Bool.false_eq_true, if_false]
    go_wp2_with fail
    go_ret
    exact ⟨ret_int HN.out.symm, hB1⟩
  | true =>
    have HN : Hid (plc e ms node = ixM (fun m => m.n == node) 0 ms) := by unfold Hid plc; rw [hk]; rfl
    clear hk
    simp only [if_true]
    go_wp2_with fail
    go_loopw [13] (fun i wr => ∃ k : Nat, k ≤ n ∧ i = .int .i64 k ∧ Hid (plc e ms node = ixM (fun m => m.n == node) k (ms.drop k)) ∧ Below w1.heap.size w1 wr) (fun i _ => n - (intOf i).toNat)
    case atStart => exact ⟨0, Nat.zero_le _, rfl, HN, Below.refl _ _⟩
    case round =>
      clear HN
      obtain ⟨k, hk, rfl, HN, hb⟩ := hrel
      have hbb := hB1.trans (hb.mono hB1.size)
      by_cases h : k < n
      · obtain ⟨g1, o1, rfl, c1⟩ := (hr1.below hb).cells (by omega)
        obtain ⟨x1, x2, x3⟩ := c1 k h
        have hk1 : (k : Int) < (n : Int) := by omega
        have hd := drop_mb (fs := ms) (k := k) (by omega)
        have hN2 := HN.out
        rw [hd] at hN2
        clear c1 HN hd
        generalize ms.getD k .z0 = f at *
        obtain ⟨fn, fs, ff⟩ := f
        dsimp only at x1 x2 x3
        have HN3 : Hid (plc e ms node = if (fn == node) = true then (k : Int) else ixM (fun m => m.n == node) (k + 1) (ms.drop (k + 1))) := hN2
        clear hN2
        have hba := hb.alloc hb.size (.cells #[.int .i64 fn, .int .i64 fs, .bool ff] 36)
        have hbba := hbb.alloc hbb.size (.cells #[.int .i64 fn, .int .i64 fs, .bool ff] 36)
        cases hq : (fn == node) with
        | true =>
          have HN4 : Hid (plc e ms node = (k : Int)) := by unfold Hid; rw [HN3.out, hq]; rfl
          clear HN3
          go_wp2_with fail
          go_ret
          exact ⟨ret_int HN4.out.symm, hbba⟩
        | false =>
          have HN4 : Hid (plc e ms node = ixM (fun m => m.n == node) (k + 1) (ms.drop (k + 1))) := by unfold Hid; rw [HN3.out, hq]; rfl
          clear HN3
          go_wp2_with fail
          go_roundw
          case rel => exact ⟨k + 1, by omega, by go_num, HN4, hba⟩
          case measure => simp [intOf]; omega
      · obtain rfl : k = n := by omega
        have HN4 : Hid (plc e ms node = -1) := by
          unfold Hid; rw [HN.out, List.drop_of_length_le (by omega)]; rfl
        clear HN hr1
        go_wp2_with fail
        go_ret
        exact ⟨ret_int HN4.out.symm, hbb⟩

/-- How far a read goes: at the k-th member, whose site is j, masters at mm. -/
def rdV (xs : List Int) (i0 j mm : Nat) (tail : Bool) (t : Nat) : Int := 2 * (wv xs i0 j + wv xs j mm + (if tail then wv xs j t else 0))

/-- The site of the k-th member. -/
def stN (ms : List Mb) (k : Nat) : Nat := (ms.getD k .z0).s.toNat

theorem stN_eq {e : Int} {ms : List Mb} (h : chk e ms = true) {k : Nat} (hk : k < ms.length) : (ms.getD k .z0).s = (stN ms k : Int) ∧ stN ms k < 3 := by
  obtain ⟨j, hj, e⟩ := chk_site h (getD_mb (fs := ms) hk)
  unfold stN
  omega

set_option maxRecDepth 20000 in
set_option maxHeartbeats 2000000 in
theorem Read_ok (e : Int) (p : Option Addr) (n c : Nat) (ms : List Mb) (a0 a1 a2 a3 a4 a5 a6 a7 a8 : Int) (i0 : Nat) (hi0 : i0 < 3) (hk : chk e ms = true) (hw : okW [a0, a1, a2, a3, a4, a5, a6, a7, a8] = true) (node : Int) (k : Nat) (hpk : plc e ms node = (k : Int)) (hkl : k < ms.length) (tail : Bool) (mm : Nat) (hmm : mm < 3) (w : World) (hr : RdM w p n c ms) (hn : n ≤ 5864062014805) :
    Calls Try.prog 21 #[.agg #[.int .i64 e, .slice p n c], .agg #[.int .i64 a0, .int .i64 a1, .int .i64 a2, .int .i64 a3, .int .i64 a4, .int .i64 a5, .int .i64 a6, .int .i64 a7, .int .i64 a8], .int .i64 (i0 : Int), .int .i64 node, .bool tail, .int .i64 (mm : Int)] w fun r w' => r = .returned (.tuple #[.int .i64 (rdV [a0, a1, a2, a3, a4, a5, a6, a7, a8] i0 (stN ms k) mm tail (stN ms (ms.length - 1))), .int .i64 0]) ∧ Below w.heap.size w w' := by
  have hb0 : Below w.heap.size w ((w.alloc (.cells #[.int .i64 e, .slice p n c] 33)).alloc (.cells #[.int .i64 a0, .int .i64 a1, .int .i64 a2, .int .i64 a3, .int .i64 a4, .int .i64 a5, .int .i64 a6, .int .i64 a7, .int .i64 a8] 24)) := ((Below.refl _ _).alloc (Nat.le_refl _) _).alloc (by simp) _
  have hA : ArrI 24 .i64 ((w.alloc (.cells #[.int .i64 e, .slice p n c] 33)).alloc (.cells #[.int .i64 a0, .int .i64 a1, .int .i64 a2, .int .i64 a3, .int .i64 a4, .int .i64 a5, .int .i64 a6, .int .i64 a7, .int .i64 a8] 24)) (w.heap.size + 1) [a0, a1, a2, a3, a4, a5, a6, a7, a8] := new_at (by simp) (nine_cells (t := 24) (w.alloc (.cells #[.int .i64 e, .slice p n c] 33)) a0 a1 a2 a3 a4 a5 a6 a7 a8)
  have hK : At 33 ((w.alloc (.cells #[.int .i64 e, .slice p n c] 33)).alloc (.cells #[.int .i64 a0, .int .i64 a1, .int .i64 a2, .int .i64 a3, .int .i64 a4, .int .i64 a5, .int .i64 a6, .int .i64 a7, .int .i64 a8] 24)) w.heap.size #[.int .i64 e, .slice p n c] := (At.new 33 w #[.int .i64 e, .slice p n c]).alloc _
  have hS : isSt (i0 : Int) = true := by unfold isSt; simp; omega
  have hSm : isSt (mm : Int) = true := by unfold isSt; simp; omega
  have hO := askerOf_ok e p n c ms a0 a1 a2 a3 a4 a5 a6 a7 a8 (i0 : Int) _ (hr.below hb0) hn hk hw hS
  have h6 := chk_six hk
  have hp := chk_pos hk
  have hl := hr.len
  have hin := okW_in (B9 := [a0, a1, a2, a3, a4, a5, a6, a7, a8]) rfl hw
  obtain ⟨hj1, hj2⟩ := stN_eq hk hkl
  obtain ⟨ht1, ht2⟩ := stN_eq hk (k := ms.length - 1) (by omega)
  have v1 := hin.at i0 (stN ms k)
  have v2 := hin.at (stN ms k) mm
  have v3 := hin.at (stN ms k) (stN ms (ms.length - 1))
  have HV : Hid (rdV [a0, a1, a2, a3, a4, a5, a6, a7, a8] i0 (stN ms k) mm tail (stN ms (ms.length - 1)) = 2 * (wv [a0, a1, a2, a3, a4, a5, a6, a7, a8] i0 (stN ms k) + wv [a0, a1, a2, a3, a4, a5, a6, a7, a8] (stN ms k) mm + (if tail then wv [a0, a1, a2, a3, a4, a5, a6, a7, a8] (stN ms k) (stN ms (ms.length - 1)) else 0))) := rfl
  generalize rdV [a0, a1, a2, a3, a4, a5, a6, a7, a8] i0 (stN ms k) mm tail (stN ms (ms.length - 1)) = V at *
  have q1 : ∀ W : World, ArrI 24 .i64 W (w.heap.size + 1) [a0, a1, a2, a3, a4, a5, a6, a7, a8] → W.cell? ⟨w.heap.size + 1, i0 * 3 + stN ms k, none⟩ = some (.int .i64 (wv [a0, a1, a2, a3, a4, a5, a6, a7, a8] i0 (stN ms k))) := fun W h => h.cell (by simp; omega)
  have q2 : ∀ W : World, ArrI 24 .i64 W (w.heap.size + 1) [a0, a1, a2, a3, a4, a5, a6, a7, a8] → W.cell? ⟨w.heap.size + 1, stN ms k * 3 + mm, none⟩ = some (.int .i64 (wv [a0, a1, a2, a3, a4, a5, a6, a7, a8] (stN ms k) mm)) := fun W h => h.cell (by simp; omega)
  have q3 : ∀ W : World, ArrI 24 .i64 W (w.heap.size + 1) [a0, a1, a2, a3, a4, a5, a6, a7, a8] → W.cell? ⟨w.heap.size + 1, stN ms k * 3 + stN ms (ms.length - 1), none⟩ = some (.int .i64 (wv [a0, a1, a2, a3, a4, a5, a6, a7, a8] (stN ms k) (stN ms (ms.length - 1)))) := fun W h => h.cell (by simp; omega)
  generalize wv [a0, a1, a2, a3, a4, a5, a6, a7, a8] i0 (stN ms k) = X1 at *
  generalize wv [a0, a1, a2, a3, a4, a5, a6, a7, a8] (stN ms k) mm = X2 at *
  generalize wv [a0, a1, a2, a3, a4, a5, a6, a7, a8] (stN ms k) (stN ms (ms.length - 1)) = X3 at *
  generalize stN ms k = j at *
  generalize stN ms (ms.length - 1) = t at *
  clear hS hk hw hin
  cases tail with
  | false =>
    go_enter Try.func21, Try.ntmps21
    go_wp2_with fail
    refine hO.mono ?_
    rintro r w1 ⟨rfl, hb1⟩
    have hbb := hb0.trans (hb1.mono hb0.size)
    have hba : Below w1.heap.size w1 (w1.alloc (.cells #[.int .i64 a0, .int .i64 a1, .int .i64 a2, .int .i64 a3, .int .i64 a4, .int .i64 a5, .int .i64 a6, .int .i64 a7, .int .i64 a8, .int .i64 (i0 : Int)] 57)) := (Below.refl _ _).alloc (Nat.le_refl _) _
    have hK1 := (hK.below hb1).below hba
    have hA1 := (hA.below hb1).below hba
    have hQ : ArrI 57 .i64 (w1.alloc (.cells #[.int .i64 a0, .int .i64 a1, .int .i64 a2, .int .i64 a3, .int .i64 a4, .int .i64 a5, .int .i64 a6, .int .i64 a7, .int .i64 a8, .int .i64 (i0 : Int)] 57)) w1.heap.size [a0, a1, a2, a3, a4, a5, a6, a7, a8, (i0 : Int)] := ArrI.new 57 .i64 w1 [a0, a1, a2, a3, a4, a5, a6, a7, a8, (i0 : Int)]
    have hb2 := hbb.trans (hba.mono hbb.size)
    have hr1 := hr.below hb2
    obtain ⟨c0, c1, c2, c3, c4, c5, c6, c7, c8, c9⟩ := ten hQ
    obtain ⟨k0, k1⟩ := hK1.two
    have hP := Place_any e p n c ms node _ hr1 hn
    rw [hpk] at hP
    clear hO hb0 hb1 hpk
    go_wp2_with fail
    refine hP.mono ?_
    rintro r w3 ⟨rfl, hb3⟩
    have hb4 := hb2.trans (hb3.mono hb2.size)
    obtain ⟨k3, k4⟩ := (hK1.below hb3).two
    have hA3 := hA1.below hb3
    have z9 := (hQ.below hb3).cell (i := 9) (by simp)
    simp only [List.getD_eq_getElem?_getD, List.getElem?_cons_succ, List.getElem?_cons_zero, Option.getD_some] at z9
    obtain ⟨bb, oo, rfl, hcc⟩ := (hr1.below hb3).cells (by omega)
    have x2 := (hcc k (by omega)).2.1
    have y2 := (hcc (n - 1) (by omega)).2.1
    rw [hj1] at x2
    rw [← hl, ht1] at y2
    have u1 := q1 _ hA3
    have u2 := q2 _ hA3
    have u3 := q3 _ hA3
    have hkn : (k : Int) < (n : Int) := by omega
    have hj3 : (j : Int) < 3 := by omega
    have ht3 : (t : Int) < 3 := by omega
    have hm3 : (mm : Int) < 3 := by omega
    have hi3 : (i0 : Int) < 3 := by omega
    have hn1 : IntKind.i64.wrap ((n : Int) - 1) = ((n - 1 : Nat) : Int) := by rw [IntKind.wrap_i64]; omega
    have hn2 : ((n - 1 : Nat) : Int) < (n : Int) := by omega
    have hw1 : IntKind.i64.wrap (X1 + X2) = X1 + X2 := by rw [IntKind.wrap_i64]; omega
    have hw2 : IntKind.i64.wrap (X1 + X2 + X3) = X1 + X2 + X3 := by rw [IntKind.wrap_i64]; omega
    have hw3 : IntKind.i64.wrap (2 * (X1 + X2)) = 2 * (X1 + X2) := by rw [IntKind.wrap_i64]; omega
    have hw4 : IntKind.i64.wrap (2 * (X1 + X2 + X3)) = 2 * (X1 + X2 + X3) := by rw [IntKind.wrap_i64]; omega
    have hmd : decide (2 < (mm : Int)) = false := decide_eq_false (by omega)
    rw [hl] at y2
    generalize hN1 : n - 1 = n1 at *
    clear q1 q2 q3 hA hA1 hA3 hK hK1 hcc hr hr1 hP hb3 hb2 hj1 ht1 hN1
    go_wp2_with fail
    refine (isSite_any (mm : Int) _).mono ?_
    rintro r w4 ⟨rfl, hw4⟩
    subst hw4
    rw [hSm]
    go_wp2_with fail
    go_quiet (fail)
    go_wp2_with fail
    go_ret2
    exact ⟨by rw [HV.out]; simp, below_drewN hb4 _⟩
  | true =>
    go_enter Try.func21, Try.ntmps21
    go_wp2_with fail
    refine hO.mono ?_
    rintro r w1 ⟨rfl, hb1⟩
    have hbb := hb0.trans (hb1.mono hb0.size)
    have hba : Below w1.heap.size w1 (w1.alloc (.cells #[.int .i64 a0, .int .i64 a1, .int .i64 a2, .int .i64 a3, .int .i64 a4, .int .i64 a5, .int .i64 a6, .int .i64 a7, .int .i64 a8, .int .i64 (i0 : Int)] 57)) := (Below.refl _ _).alloc (Nat.le_refl _) _
    have hK1 := (hK.below hb1).below hba
    have hA1 := (hA.below hb1).below hba
    have hQ : ArrI 57 .i64 (w1.alloc (.cells #[.int .i64 a0, .int .i64 a1, .int .i64 a2, .int .i64 a3, .int .i64 a4, .int .i64 a5, .int .i64 a6, .int .i64 a7, .int .i64 a8, .int .i64 (i0 : Int)] 57)) w1.heap.size [a0, a1, a2, a3, a4, a5, a6, a7, a8, (i0 : Int)] := ArrI.new 57 .i64 w1 [a0, a1, a2, a3, a4, a5, a6, a7, a8, (i0 : Int)]
    have hb2 := hbb.trans (hba.mono hbb.size)
    have hr1 := hr.below hb2
    obtain ⟨c0, c1, c2, c3, c4, c5, c6, c7, c8, c9⟩ := ten hQ
    obtain ⟨k0, k1⟩ := hK1.two
    have hP := Place_any e p n c ms node _ hr1 hn
    rw [hpk] at hP
    clear hO hb0 hb1 hpk
    go_wp2_with fail
    refine hP.mono ?_
    rintro r w3 ⟨rfl, hb3⟩
    have hb4 := hb2.trans (hb3.mono hb2.size)
    obtain ⟨k3, k4⟩ := (hK1.below hb3).two
    have hA3 := hA1.below hb3
    have z9 := (hQ.below hb3).cell (i := 9) (by simp)
    simp only [List.getD_eq_getElem?_getD, List.getElem?_cons_succ, List.getElem?_cons_zero, Option.getD_some] at z9
    obtain ⟨bb, oo, rfl, hcc⟩ := (hr1.below hb3).cells (by omega)
    have x2 := (hcc k (by omega)).2.1
    have y2 := (hcc (n - 1) (by omega)).2.1
    rw [hj1] at x2
    rw [← hl, ht1] at y2
    have u1 := q1 _ hA3
    have u2 := q2 _ hA3
    have u3 := q3 _ hA3
    have hkn : (k : Int) < (n : Int) := by omega
    have hj3 : (j : Int) < 3 := by omega
    have ht3 : (t : Int) < 3 := by omega
    have hm3 : (mm : Int) < 3 := by omega
    have hi3 : (i0 : Int) < 3 := by omega
    have hn1 : IntKind.i64.wrap ((n : Int) - 1) = ((n - 1 : Nat) : Int) := by rw [IntKind.wrap_i64]; omega
    have hn2 : ((n - 1 : Nat) : Int) < (n : Int) := by omega
    have hw1 : IntKind.i64.wrap (X1 + X2) = X1 + X2 := by rw [IntKind.wrap_i64]; omega
    have hw2 : IntKind.i64.wrap (X1 + X2 + X3) = X1 + X2 + X3 := by rw [IntKind.wrap_i64]; omega
    have hw3 : IntKind.i64.wrap (2 * (X1 + X2)) = 2 * (X1 + X2) := by rw [IntKind.wrap_i64]; omega
    have hw4 : IntKind.i64.wrap (2 * (X1 + X2 + X3)) = 2 * (X1 + X2 + X3) := by rw [IntKind.wrap_i64]; omega
    have hmd : decide (2 < (mm : Int)) = false := decide_eq_false (by omega)
    rw [hl] at y2
    generalize hN1 : n - 1 = n1 at *
    clear q1 q2 q3 hA hA1 hA3 hK hK1 hcc hr hr1 hP hb3 hb2 hj1 ht1 hN1
    go_wp2_with fail
    refine (isSite_any (mm : Int) _).mono ?_
    rintro r w4 ⟨rfl, hw4⟩
    subst hw4
    rw [hSm]
    go_wp2_with fail
    go_quiet (fail)
    go_wp2_with fail
    go_quiet (fail)
    go_wp2_with fail
    go_ret2
    exact ⟨by rw [HV.out]; simp, below_drewN hb4 _⟩

set_option maxRecDepth 20000 in
set_option maxHeartbeats 2000000 in
theorem rRead_ok (e : Int) (p : Option Addr) (n c : Nat) (ms : List Mb) (a0 a1 a2 a3 a4 a5 a6 a7 a8 : Int) (i0 : Nat) (hi0 : i0 < 3) (hk : chk e ms = true) (hw : okW [a0, a1, a2, a3, a4, a5, a6, a7, a8] = true) (node : Int) (k : Nat) (hpk : plc e ms node = (k : Int)) (hkl : k < ms.length) (tail : Bool) (mm : Nat) (hmm : mm < 3) (w : World) (hr : RdM w p n c ms) (hn : n ≤ 5864062014805) :
    Calls Try.prog 22 #[.agg #[.int .i64 e, .slice p n c], .agg #[.int .i64 a0, .int .i64 a1, .int .i64 a2, .int .i64 a3, .int .i64 a4, .int .i64 a5, .int .i64 a6, .int .i64 a7, .int .i64 a8], .int .i64 (i0 : Int), .int .i64 node, .bool tail, .int .i64 (mm : Int)] w fun r w' => r = .returned (.tuple #[.int .i64 (rdV [a0, a1, a2, a3, a4, a5, a6, a7, a8] i0 (stN ms k) mm tail (stN ms (ms.length - 1))), .int .i64 0]) ∧ Below w.heap.size w w' := by
  have hb0 : Below w.heap.size w ((w.alloc (.cells #[.int .i64 e, .slice p n c] 33)).alloc (.cells #[.int .i64 a0, .int .i64 a1, .int .i64 a2, .int .i64 a3, .int .i64 a4, .int .i64 a5, .int .i64 a6, .int .i64 a7, .int .i64 a8] 24)) := ((Below.refl _ _).alloc (Nat.le_refl _) _).alloc (by simp) _
  have hA : ArrI 24 .i64 ((w.alloc (.cells #[.int .i64 e, .slice p n c] 33)).alloc (.cells #[.int .i64 a0, .int .i64 a1, .int .i64 a2, .int .i64 a3, .int .i64 a4, .int .i64 a5, .int .i64 a6, .int .i64 a7, .int .i64 a8] 24)) (w.heap.size + 1) [a0, a1, a2, a3, a4, a5, a6, a7, a8] := new_at (by simp) (nine_cells (t := 24) (w.alloc (.cells #[.int .i64 e, .slice p n c] 33)) a0 a1 a2 a3 a4 a5 a6 a7 a8)
  have hK : At 33 ((w.alloc (.cells #[.int .i64 e, .slice p n c] 33)).alloc (.cells #[.int .i64 a0, .int .i64 a1, .int .i64 a2, .int .i64 a3, .int .i64 a4, .int .i64 a5, .int .i64 a6, .int .i64 a7, .int .i64 a8] 24)) w.heap.size #[.int .i64 e, .slice p n c] := (At.new 33 w #[.int .i64 e, .slice p n c]).alloc _
  have hS : isSt (i0 : Int) = true := by unfold isSt; simp; omega
  have hSm : isSt (mm : Int) = true := by unfold isSt; simp; omega
  have hO := may_any e p n c ms a0 a1 a2 a3 a4 a5 a6 a7 a8 (i0 : Int) _ (hr.below hb0) hn
  have hmy : mayR e ms [a0, a1, a2, a3, a4, a5, a6, a7, a8] (i0 : Int) = 0 := by unfold mayR; rw [if_pos hk, if_pos ⟨hw, hS⟩]
  rw [hmy] at hO
  have h6 := chk_six hk
  have hp := chk_pos hk
  have hl := hr.len
  have hin := okW_in (B9 := [a0, a1, a2, a3, a4, a5, a6, a7, a8]) rfl hw
  obtain ⟨hj1, hj2⟩ := stN_eq hk hkl
  obtain ⟨ht1, ht2⟩ := stN_eq hk (k := ms.length - 1) (by omega)
  have v1 := hin.at i0 (stN ms k)
  have v2 := hin.at (stN ms k) mm
  have v3 := hin.at (stN ms k) (stN ms (ms.length - 1))
  have HV : Hid (rdV [a0, a1, a2, a3, a4, a5, a6, a7, a8] i0 (stN ms k) mm tail (stN ms (ms.length - 1)) = 2 * (wv [a0, a1, a2, a3, a4, a5, a6, a7, a8] i0 (stN ms k) + wv [a0, a1, a2, a3, a4, a5, a6, a7, a8] (stN ms k) mm + (if tail then wv [a0, a1, a2, a3, a4, a5, a6, a7, a8] (stN ms k) (stN ms (ms.length - 1)) else 0))) := rfl
  generalize rdV [a0, a1, a2, a3, a4, a5, a6, a7, a8] i0 (stN ms k) mm tail (stN ms (ms.length - 1)) = V at *
  have q1 : ∀ W : World, ArrI 24 .i64 W (w.heap.size + 1) [a0, a1, a2, a3, a4, a5, a6, a7, a8] → W.cell? ⟨w.heap.size + 1, i0 * 3 + stN ms k, none⟩ = some (.int .i64 (wv [a0, a1, a2, a3, a4, a5, a6, a7, a8] i0 (stN ms k))) := fun W h => h.cell (by simp; omega)
  have q2 : ∀ W : World, ArrI 24 .i64 W (w.heap.size + 1) [a0, a1, a2, a3, a4, a5, a6, a7, a8] → W.cell? ⟨w.heap.size + 1, stN ms k * 3 + mm, none⟩ = some (.int .i64 (wv [a0, a1, a2, a3, a4, a5, a6, a7, a8] (stN ms k) mm)) := fun W h => h.cell (by simp; omega)
  have q3 : ∀ W : World, ArrI 24 .i64 W (w.heap.size + 1) [a0, a1, a2, a3, a4, a5, a6, a7, a8] → W.cell? ⟨w.heap.size + 1, stN ms k * 3 + stN ms (ms.length - 1), none⟩ = some (.int .i64 (wv [a0, a1, a2, a3, a4, a5, a6, a7, a8] (stN ms k) (stN ms (ms.length - 1)))) := fun W h => h.cell (by simp; omega)
  generalize wv [a0, a1, a2, a3, a4, a5, a6, a7, a8] i0 (stN ms k) = X1 at *
  generalize wv [a0, a1, a2, a3, a4, a5, a6, a7, a8] (stN ms k) mm = X2 at *
  generalize wv [a0, a1, a2, a3, a4, a5, a6, a7, a8] (stN ms k) (stN ms (ms.length - 1)) = X3 at *
  generalize stN ms k = j at *
  generalize stN ms (ms.length - 1) = t at *
  clear hS hk hw hin
  cases tail with
  | false =>
    go_enter Try.func22, Try.ntmps22
    go_wp2_with fail
    refine hO.mono ?_
    rintro r w1 ⟨rfl, hb1⟩
    have hb2 := hb0.trans (hb1.mono hb0.size)
    have hK1 := hK.below hb1
    have hA1 := hA.below hb1
    have hr1 := hr.below hb2
    obtain ⟨k0, k1⟩ := hK1.two
    have hP := rPlace_any e p n c ms node _ hr1 hn
    rw [hpk] at hP
    clear hO hb0 hb1 hpk
    go_wp2_with fail
    refine hP.mono ?_
    rintro r w3 ⟨rfl, hb3⟩
    have hb4 := hb2.trans (hb3.mono hb2.size)
    obtain ⟨k3, k4⟩ := (hK1.below hb3).two
    have hA3 := hA1.below hb3
    obtain ⟨bb, oo, rfl, hcc⟩ := (hr1.below hb3).cells (by omega)
    have x2 := (hcc k (by omega)).2.1
    have y2 := (hcc (n - 1) (by omega)).2.1
    rw [hj1] at x2
    rw [← hl, ht1] at y2
    have u1 := q1 _ hA3
    have u2 := q2 _ hA3
    have u3 := q3 _ hA3
    have hkn : (k : Int) < (n : Int) := by omega
    have hj3 : (j : Int) < 3 := by omega
    have ht3 : (t : Int) < 3 := by omega
    have hm3 : (mm : Int) < 3 := by omega
    have hi3 : (i0 : Int) < 3 := by omega
    have hn1 : IntKind.i64.wrap ((n : Int) - 1) = ((n - 1 : Nat) : Int) := by rw [IntKind.wrap_i64]; omega
    have hn2 : ((n - 1 : Nat) : Int) < (n : Int) := by omega
    have hw1 : IntKind.i64.wrap (X1 + X2) = X1 + X2 := by rw [IntKind.wrap_i64]; omega
    have hw2 : IntKind.i64.wrap (X1 + X2 + X3) = X1 + X2 + X3 := by rw [IntKind.wrap_i64]; omega
    have hw3 : IntKind.i64.wrap (2 * (X1 + X2)) = 2 * (X1 + X2) := by rw [IntKind.wrap_i64]; omega
    have hw4 : IntKind.i64.wrap (2 * (X1 + X2 + X3)) = 2 * (X1 + X2 + X3) := by rw [IntKind.wrap_i64]; omega
    have hmd : decide (2 < (mm : Int)) = false := decide_eq_false (by omega)
    rw [hl] at y2
    generalize hN1 : n - 1 = n1 at *
    clear q1 q2 q3 hA hA1 hA3 hK hK1 hcc hr hr1 hP hb3 hb2 hj1 ht1 hN1
    go_wp2_with fail
    go_quiet (fail)
    go_wp2_with fail
    go_ret2
    exact ⟨by rw [HV.out]; simp, below_drewN hb4 _⟩
  | true =>
    go_enter Try.func22, Try.ntmps22
    go_wp2_with fail
    refine hO.mono ?_
    rintro r w1 ⟨rfl, hb1⟩
    have hb2 := hb0.trans (hb1.mono hb0.size)
    have hK1 := hK.below hb1
    have hA1 := hA.below hb1
    have hr1 := hr.below hb2
    obtain ⟨k0, k1⟩ := hK1.two
    have hP := rPlace_any e p n c ms node _ hr1 hn
    rw [hpk] at hP
    clear hO hb0 hb1 hpk
    go_wp2_with fail
    refine hP.mono ?_
    rintro r w3 ⟨rfl, hb3⟩
    have hb4 := hb2.trans (hb3.mono hb2.size)
    obtain ⟨k3, k4⟩ := (hK1.below hb3).two
    have hA3 := hA1.below hb3
    obtain ⟨bb, oo, rfl, hcc⟩ := (hr1.below hb3).cells (by omega)
    have x2 := (hcc k (by omega)).2.1
    have y2 := (hcc (n - 1) (by omega)).2.1
    rw [hj1] at x2
    rw [← hl, ht1] at y2
    have u1 := q1 _ hA3
    have u2 := q2 _ hA3
    have u3 := q3 _ hA3
    have hkn : (k : Int) < (n : Int) := by omega
    have hj3 : (j : Int) < 3 := by omega
    have ht3 : (t : Int) < 3 := by omega
    have hm3 : (mm : Int) < 3 := by omega
    have hi3 : (i0 : Int) < 3 := by omega
    have hn1 : IntKind.i64.wrap ((n : Int) - 1) = ((n - 1 : Nat) : Int) := by rw [IntKind.wrap_i64]; omega
    have hn2 : ((n - 1 : Nat) : Int) < (n : Int) := by omega
    have hw1 : IntKind.i64.wrap (X1 + X2) = X1 + X2 := by rw [IntKind.wrap_i64]; omega
    have hw2 : IntKind.i64.wrap (X1 + X2 + X3) = X1 + X2 + X3 := by rw [IntKind.wrap_i64]; omega
    have hw3 : IntKind.i64.wrap (2 * (X1 + X2)) = 2 * (X1 + X2) := by rw [IntKind.wrap_i64]; omega
    have hw4 : IntKind.i64.wrap (2 * (X1 + X2 + X3)) = 2 * (X1 + X2 + X3) := by rw [IntKind.wrap_i64]; omega
    have hmd : decide (2 < (mm : Int)) = false := decide_eq_false (by omega)
    rw [hl] at y2
    generalize hN1 : n - 1 = n1 at *
    clear q1 q2 q3 hA hA1 hA3 hK hK1 hcc hr hr1 hP hb3 hb2 hj1 ht1 hN1
    go_wp2_with fail
    go_quiet (fail)
    go_wp2_with fail
    go_quiet (fail)
    go_wp2_with fail
    go_ret2
    exact ⟨by rw [HV.out]; simp, below_drewN hb4 _⟩

set_option maxRecDepth 20000 in
set_option maxHeartbeats 2000000 in
theorem Read_no (e : Int) (p : Option Addr) (n c : Nat) (ms : List Mb) (a0 a1 a2 a3 a4 a5 a6 a7 a8 : Int) (st ev node mm : Int) (tail : Bool) (hev : mayR e ms [a0, a1, a2, a3, a4, a5, a6, a7, a8] st = ev) (h0 : ev ≠ 0) (w : World) (hr : RdM w p n c ms) (hn : n ≤ 5864062014805) :
    Calls Try.prog 21 #[.agg #[.int .i64 e, .slice p n c], .agg #[.int .i64 a0, .int .i64 a1, .int .i64 a2, .int .i64 a3, .int .i64 a4, .int .i64 a5, .int .i64 a6, .int .i64 a7, .int .i64 a8], .int .i64 st, .int .i64 node, .bool tail, .int .i64 mm] w fun r w' => r = .returned (.tuple #[.int .i64 0, .int .i64 ev]) ∧ Below w.heap.size w w' := by
  have hb0 : Below w.heap.size w ((w.alloc (.cells #[.int .i64 e, .slice p n c] 33)).alloc (.cells #[.int .i64 a0, .int .i64 a1, .int .i64 a2, .int .i64 a3, .int .i64 a4, .int .i64 a5, .int .i64 a6, .int .i64 a7, .int .i64 a8] 24)) := ((Below.refl _ _).alloc (Nat.le_refl _) _).alloc (by simp) _
  have hA : ArrI 24 .i64 ((w.alloc (.cells #[.int .i64 e, .slice p n c] 33)).alloc (.cells #[.int .i64 a0, .int .i64 a1, .int .i64 a2, .int .i64 a3, .int .i64 a4, .int .i64 a5, .int .i64 a6, .int .i64 a7, .int .i64 a8] 24)) (w.heap.size + 1) [a0, a1, a2, a3, a4, a5, a6, a7, a8] := new_at (by simp) (nine_cells (t := 24) (w.alloc (.cells #[.int .i64 e, .slice p n c] 33)) a0 a1 a2 a3 a4 a5 a6 a7 a8)
  have hK : At 33 ((w.alloc (.cells #[.int .i64 e, .slice p n c] 33)).alloc (.cells #[.int .i64 a0, .int .i64 a1, .int .i64 a2, .int .i64 a3, .int .i64 a4, .int .i64 a5, .int .i64 a6, .int .i64 a7, .int .i64 a8] 24)) w.heap.size #[.int .i64 e, .slice p n c] := (At.new 33 w #[.int .i64 e, .slice p n c]).alloc _
  have hO := askerOf_no e p n c ms a0 a1 a2 a3 a4 a5 a6 a7 a8 st _ (hr.below hb0) hn ev hev h0
  have h0b : (ev != 0) = true := by simp [h0]
  clear hr hev h0 hA hK
  go_enter Try.func21, Try.ntmps21
  go_wp2_with fail
  refine hO.mono ?_
  rintro r w1 ⟨rfl, hb1⟩
  have hbb := hb0.trans (hb1.mono hb0.size)
  have hb2 := hbb.alloc hbb.size (.cells #[.int .i64 0, .int .i64 0, .int .i64 0, .int .i64 0, .int .i64 0, .int .i64 0, .int .i64 0, .int .i64 0, .int .i64 0, .int .i64 0] 57)
  clear hO hb1 hb0
  go_wp2_with fail
  go_ret2
  exact ⟨rfl, hb2⟩

set_option maxRecDepth 20000 in
set_option maxHeartbeats 2000000 in
theorem Read_81 (e : Int) (p : Option Addr) (n c : Nat) (ms : List Mb) (a0 a1 a2 a3 a4 a5 a6 a7 a8 : Int) (i0 : Nat) (hi0 : i0 < 3) (hk : chk e ms = true) (hw : okW [a0, a1, a2, a3, a4, a5, a6, a7, a8] = true) (node mm : Int) (tail : Bool) (hx : plc e ms node = -1 ∨ isSt mm = false) (w : World) (hr : RdM w p n c ms) (hn : n ≤ 5864062014805) :
    Calls Try.prog 21 #[.agg #[.int .i64 e, .slice p n c], .agg #[.int .i64 a0, .int .i64 a1, .int .i64 a2, .int .i64 a3, .int .i64 a4, .int .i64 a5, .int .i64 a6, .int .i64 a7, .int .i64 a8], .int .i64 (i0 : Int), .int .i64 node, .bool tail, .int .i64 mm] w fun r w' => r = .returned (.tuple #[.int .i64 0, .int .i64 81]) ∧ Below w.heap.size w w' := by
  have hb0 : Below w.heap.size w ((w.alloc (.cells #[.int .i64 e, .slice p n c] 33)).alloc (.cells #[.int .i64 a0, .int .i64 a1, .int .i64 a2, .int .i64 a3, .int .i64 a4, .int .i64 a5, .int .i64 a6, .int .i64 a7, .int .i64 a8] 24)) := ((Below.refl _ _).alloc (Nat.le_refl _) _).alloc (by simp) _
  have hA : ArrI 24 .i64 ((w.alloc (.cells #[.int .i64 e, .slice p n c] 33)).alloc (.cells #[.int .i64 a0, .int .i64 a1, .int .i64 a2, .int .i64 a3, .int .i64 a4, .int .i64 a5, .int .i64 a6, .int .i64 a7, .int .i64 a8] 24)) (w.heap.size + 1) [a0, a1, a2, a3, a4, a5, a6, a7, a8] := new_at (by simp) (nine_cells (t := 24) (w.alloc (.cells #[.int .i64 e, .slice p n c] 33)) a0 a1 a2 a3 a4 a5 a6 a7 a8)
  have hK : At 33 ((w.alloc (.cells #[.int .i64 e, .slice p n c] 33)).alloc (.cells #[.int .i64 a0, .int .i64 a1, .int .i64 a2, .int .i64 a3, .int .i64 a4, .int .i64 a5, .int .i64 a6, .int .i64 a7, .int .i64 a8] 24)) w.heap.size #[.int .i64 e, .slice p n c] := (At.new 33 w #[.int .i64 e, .slice p n c]).alloc _
  have hS : isSt (i0 : Int) = true := by unfold isSt; simp; omega
  have hO := askerOf_ok e p n c ms a0 a1 a2 a3 a4 a5 a6 a7 a8 (i0 : Int) _ (hr.below hb0) hn hk hw hS
  have hbd := plc_bounds e ms node
  clear hS hk hw
  go_enter Try.func21, Try.ntmps21
  go_wp2_with fail
  refine hO.mono ?_
  rintro r w1 ⟨rfl, hb1⟩
  have hbb := hb0.trans (hb1.mono hb0.size)
  have hba : Below w1.heap.size w1 (w1.alloc (.cells #[.int .i64 a0, .int .i64 a1, .int .i64 a2, .int .i64 a3, .int .i64 a4, .int .i64 a5, .int .i64 a6, .int .i64 a7, .int .i64 a8, .int .i64 (i0 : Int)] 57)) := (Below.refl _ _).alloc (Nat.le_refl _) _
  have hK1 := (hK.below hb1).below hba
  have hA1 := (hA.below hb1).below hba
  have hQ : ArrI 57 .i64 (w1.alloc (.cells #[.int .i64 a0, .int .i64 a1, .int .i64 a2, .int .i64 a3, .int .i64 a4, .int .i64 a5, .int .i64 a6, .int .i64 a7, .int .i64 a8, .int .i64 (i0 : Int)] 57)) w1.heap.size [a0, a1, a2, a3, a4, a5, a6, a7, a8, (i0 : Int)] := ArrI.new 57 .i64 w1 [a0, a1, a2, a3, a4, a5, a6, a7, a8, (i0 : Int)]
  have hb2 := hbb.trans (hba.mono hbb.size)
  have hr1 := hr.below hb2
  obtain ⟨c0, c1, c2, c3, c4, c5, c6, c7, c8, c9⟩ := ten hQ
  obtain ⟨k0, k1⟩ := hK1.two
  have hP := Place_any e p n c ms node _ hr1 hn
  clear hO hb0 hb1
  go_wp2_with fail
  refine hP.mono ?_
  rintro r w3 ⟨rfl, hb3⟩
  have hb4 := hb2.trans (hb3.mono hb2.size)
  clear hP hb3 hb2 hr hr1 hA hA1 hK hK1
  generalize plc e ms node = P at *
  by_cases hz : P < 0
  · clear hx hbd
    go_wp2_with fail
    go_ret2
    exact ⟨rfl, hb4⟩
  · have hzd : decide (P < 0) = false := decide_eq_false hz
    rcases hx with hx | hm
    · omega
    · clear hbd hz
      go_wp2_with fail
      refine (isSite_any mm _).mono ?_
      rintro r w4 ⟨rfl, hw4⟩
      subst hw4
      rw [hm]
      go_wp2_with fail
      go_ret2
      exact ⟨rfl, hb4⟩

set_option maxRecDepth 20000 in
set_option maxHeartbeats 2000000 in
theorem rRead_no (e : Int) (p : Option Addr) (n c : Nat) (ms : List Mb) (a0 a1 a2 a3 a4 a5 a6 a7 a8 : Int) (st ev node mm : Int) (tail : Bool) (hev : mayR e ms [a0, a1, a2, a3, a4, a5, a6, a7, a8] st = ev) (h0 : ev ≠ 0) (w : World) (hr : RdM w p n c ms) (hn : n ≤ 5864062014805) :
    Calls Try.prog 22 #[.agg #[.int .i64 e, .slice p n c], .agg #[.int .i64 a0, .int .i64 a1, .int .i64 a2, .int .i64 a3, .int .i64 a4, .int .i64 a5, .int .i64 a6, .int .i64 a7, .int .i64 a8], .int .i64 st, .int .i64 node, .bool tail, .int .i64 mm] w fun r w' => r = .returned (.tuple #[.int .i64 0, .int .i64 ev]) ∧ Below w.heap.size w w' := by
  have hb0 : Below w.heap.size w ((w.alloc (.cells #[.int .i64 e, .slice p n c] 33)).alloc (.cells #[.int .i64 a0, .int .i64 a1, .int .i64 a2, .int .i64 a3, .int .i64 a4, .int .i64 a5, .int .i64 a6, .int .i64 a7, .int .i64 a8] 24)) := ((Below.refl _ _).alloc (Nat.le_refl _) _).alloc (by simp) _
  have hA : ArrI 24 .i64 ((w.alloc (.cells #[.int .i64 e, .slice p n c] 33)).alloc (.cells #[.int .i64 a0, .int .i64 a1, .int .i64 a2, .int .i64 a3, .int .i64 a4, .int .i64 a5, .int .i64 a6, .int .i64 a7, .int .i64 a8] 24)) (w.heap.size + 1) [a0, a1, a2, a3, a4, a5, a6, a7, a8] := new_at (by simp) (nine_cells (t := 24) (w.alloc (.cells #[.int .i64 e, .slice p n c] 33)) a0 a1 a2 a3 a4 a5 a6 a7 a8)
  have hK : At 33 ((w.alloc (.cells #[.int .i64 e, .slice p n c] 33)).alloc (.cells #[.int .i64 a0, .int .i64 a1, .int .i64 a2, .int .i64 a3, .int .i64 a4, .int .i64 a5, .int .i64 a6, .int .i64 a7, .int .i64 a8] 24)) w.heap.size #[.int .i64 e, .slice p n c] := (At.new 33 w #[.int .i64 e, .slice p n c]).alloc _
  have hO := may_any e p n c ms a0 a1 a2 a3 a4 a5 a6 a7 a8 st _ (hr.below hb0) hn
  rw [hev] at hO
  have h0b : (ev != 0) = true := by simp [h0]
  clear hr hev h0 hA hK
  go_enter Try.func22, Try.ntmps22
  go_wp2_with fail
  refine hO.mono ?_
  rintro r w1 ⟨rfl, hb1⟩
  have hb2 := hb0.trans (hb1.mono hb0.size)
  clear hO hb1 hb0
  go_wp2_with fail
  go_ret2
  exact ⟨rfl, hb2⟩

set_option maxRecDepth 20000 in
set_option maxHeartbeats 2000000 in
theorem rRead_81 (e : Int) (p : Option Addr) (n c : Nat) (ms : List Mb) (a0 a1 a2 a3 a4 a5 a6 a7 a8 : Int) (i0 : Nat) (hi0 : i0 < 3) (hk : chk e ms = true) (hw : okW [a0, a1, a2, a3, a4, a5, a6, a7, a8] = true) (node mm : Int) (tail : Bool) (hx : plc e ms node = -1 ∨ isSt mm = false) (w : World) (hr : RdM w p n c ms) (hn : n ≤ 5864062014805) :
    Calls Try.prog 22 #[.agg #[.int .i64 e, .slice p n c], .agg #[.int .i64 a0, .int .i64 a1, .int .i64 a2, .int .i64 a3, .int .i64 a4, .int .i64 a5, .int .i64 a6, .int .i64 a7, .int .i64 a8], .int .i64 (i0 : Int), .int .i64 node, .bool tail, .int .i64 mm] w fun r w' => r = .returned (.tuple #[.int .i64 0, .int .i64 81]) ∧ Below w.heap.size w w' := by
  have hb0 : Below w.heap.size w ((w.alloc (.cells #[.int .i64 e, .slice p n c] 33)).alloc (.cells #[.int .i64 a0, .int .i64 a1, .int .i64 a2, .int .i64 a3, .int .i64 a4, .int .i64 a5, .int .i64 a6, .int .i64 a7, .int .i64 a8] 24)) := ((Below.refl _ _).alloc (Nat.le_refl _) _).alloc (by simp) _
  have hA : ArrI 24 .i64 ((w.alloc (.cells #[.int .i64 e, .slice p n c] 33)).alloc (.cells #[.int .i64 a0, .int .i64 a1, .int .i64 a2, .int .i64 a3, .int .i64 a4, .int .i64 a5, .int .i64 a6, .int .i64 a7, .int .i64 a8] 24)) (w.heap.size + 1) [a0, a1, a2, a3, a4, a5, a6, a7, a8] := new_at (by simp) (nine_cells (t := 24) (w.alloc (.cells #[.int .i64 e, .slice p n c] 33)) a0 a1 a2 a3 a4 a5 a6 a7 a8)
  have hK : At 33 ((w.alloc (.cells #[.int .i64 e, .slice p n c] 33)).alloc (.cells #[.int .i64 a0, .int .i64 a1, .int .i64 a2, .int .i64 a3, .int .i64 a4, .int .i64 a5, .int .i64 a6, .int .i64 a7, .int .i64 a8] 24)) w.heap.size #[.int .i64 e, .slice p n c] := (At.new 33 w #[.int .i64 e, .slice p n c]).alloc _
  have hS : isSt (i0 : Int) = true := by unfold isSt; simp; omega
  have hO := may_any e p n c ms a0 a1 a2 a3 a4 a5 a6 a7 a8 (i0 : Int) _ (hr.below hb0) hn
  have hmy : mayR e ms [a0, a1, a2, a3, a4, a5, a6, a7, a8] (i0 : Int) = 0 := by unfold mayR; rw [if_pos hk, if_pos ⟨hw, hS⟩]
  rw [hmy] at hO
  have hbd := plc_bounds e ms node
  clear hS hk hw
  go_enter Try.func22, Try.ntmps22
  go_wp2_with fail
  refine hO.mono ?_
  rintro r w1 ⟨rfl, hb1⟩
  have hb2 := hb0.trans (hb1.mono hb0.size)
  have hK1 := hK.below hb1
  have hA1 := hA.below hb1
  have hr1 := hr.below hb2
  obtain ⟨k0, k1⟩ := hK1.two
  have hP := rPlace_any e p n c ms node _ hr1 hn
  clear hO hb0 hb1
  go_wp2_with fail
  refine hP.mono ?_
  rintro r w3 ⟨rfl, hb3⟩
  have hb4 := hb2.trans (hb3.mono hb2.size)
  clear hP hb3 hb2 hr hr1 hA hA1 hK hK1
  generalize plc e ms node = P at *
  by_cases hz : P < 0
  · clear hx hbd
    go_wp2_with fail
    go_ret2
    exact ⟨rfl, hb4⟩
  · have hzd : decide (P < 0) = false := decide_eq_false hz
    rcases hx with hx | hm
    · omega
    · clear hbd hz
      by_cases hm1 : mm < 0
      · go_wp2_with fail
        go_ret2
        exact ⟨rfl, hb4⟩
      · have hm2 : 2 < mm := by
          unfold isSt at hm
          simp at hm
          omega
        go_wp2_with fail
        go_ret2
        exact ⟨rfl, hb4⟩

end Go.Proofs.Ytdjeafaaclhpkaa.M
