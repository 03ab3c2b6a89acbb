/-
  Own text: contracts of the reference's Cost and Write, and of its Near and Write where nothing can be told.
-/
import Derived.Test.YtdjeafaaclhpkaaZRefN
namespace Go.Proofs.Ytdjeafaaclhpkaa.M
open Go.ChangeShapes Go.WideShapes Go.ChangeAt Go.RowKit

set_option maxRecDepth 20000 in
set_option maxHeartbeats 2000000 in
theorem Cost_any (a0 a1 a2 a3 a4 a5 a6 a7 a8 : Int) (i0 : Nat) (hi0 : i0 < 3) (p : Option Addr) (n c : Nat) (ms : List Mb) (hs : ∀ m ∈ ms, ∃ j : Nat, j < 3 ∧ m.s = (j : Int)) (hW : inW [a0, a1, a2, a3, a4, a5, a6, a7, a8]) (w : World) (hr : RdM w p n c ms) (hn : n ≤ 60) (hpos : 0 < n) :
    Calls Try.prog 35 #[.slice p n c, .agg #[.int .i64 a0, .int .i64 a1, .int .i64 a2, .int .i64 a3, .int .i64 a4, .int .i64 a5, .int .i64 a6, .int .i64 a7, .int .i64 a8], .int .i64 (i0 : Int)] w fun r w' => r = .returned (.int .i64 (2 * thr [a0, a1, a2, a3, a4, a5, a6, a7, a8] i0 ms)) ∧ Below w.heap.size w w' := by
  have hb0 : Below w.heap.size w (w.alloc (.cells #[.int .i64 a0, .int .i64 a1, .int .i64 a2, .int .i64 a3, .int .i64 a4, .int .i64 a5, .int .i64 a6, .int .i64 a7, .int .i64 a8] 24)) := (Below.refl _ _).alloc (Nat.le_refl _) _
  have hA : ArrI 24 .i64 (w.alloc (.cells #[.int .i64 a0, .int .i64 a1, .int .i64 a2, .int .i64 a3, .int .i64 a4, .int .i64 a5, .int .i64 a6, .int .i64 a7, .int .i64 a8] 24)) w.heap.size [a0, a1, a2, a3, a4, a5, a6, a7, a8] := nine_cells (t := 24) w a0 a1 a2 a3 a4 a5 a6 a7 a8
  have hl := hr.len
  have HWB : Hid (inW [a0, a1, a2, a3, a4, a5, a6, a7, a8]) := hW
  have HS : Hid (∀ k, k < n → (ms.getD k .z0).s = (stN ms k : Int) ∧ stN ms k < 3) := fun k hk => by
    obtain ⟨j, hj, e⟩ := hs _ (getD_mb (fs := ms) (k := k) (by omega))
    unfold stN
    omega
  have HLX : Hid ([a0, a1, a2, a3, a4, a5, a6, a7, a8].length = 9) := rfl
  have HTD : Hid (∀ k X, k < n → thr [a0, a1, a2, a3, a4, a5, a6, a7, a8] X (ms.drop k) = wv [a0, a1, a2, a3, a4, a5, a6, a7, a8] X (stN ms k) + thr [a0, a1, a2, a3, a4, a5, a6, a7, a8] (stN ms k) (ms.drop (k + 1))) := fun k X hk => by
    rw [drop_mb (fs := ms) (k := k) (by omega)]
    rfl
  have HT0 : Hid (thr [a0, a1, a2, a3, a4, a5, a6, a7, a8] i0 ms = thr [a0, a1, a2, a3, a4, a5, a6, a7, a8] i0 (ms.drop 0)) := rfl
  have HTE : Hid (∀ X, thr [a0, a1, a2, a3, a4, a5, a6, a7, a8] X (ms.drop n) = 0) := fun X => by rw [List.drop_of_length_le (by omega)]; rfl
  generalize [a0, a1, a2, a3, a4, a5, a6, a7, a8] = xs at *
  have hr0 := hr.below hb0
  generalize hTV : thr xs i0 ms = TV at *
  have hi3 : (i0 : Int) < 3 := by omega
  obtain ⟨b0, o0, rfl, hc0⟩ := hr0.cells hpos
  have y0 := (hc0 0 hpos).2.1
  obtain ⟨s1, s2⟩ := HS.out 0 hpos
  rw [s1] at y0
  have hv0 := HWB.out.at i0 (stN ms 0)
  have w0c := hA.cell (i := i0 * 3 + stN ms 0) (by rw [HLX.out]; omega)
  change _ = some (Value.int .i64 (wv xs i0 (stN ms 0))) at w0c
  have HI : Hid (2 * TV = 2 * wv xs i0 (stN ms 0) + 2 * thr xs (stN ms 0) (ms.drop 1)) := by unfold Hid; rw [HT0.out, HTD.out 0 i0 hpos, Nat.zero_add]; omega
  generalize wv xs i0 (stN ms 0) = V0 at *
  have hj0 : (stN ms 0 : Int) < 3 := by omega
  generalize hst0 : stN ms 0 = j0 at *
  rw [Nat.zero_mul, Nat.add_zero] at y0
  have hwr0 : IntKind.i64.wrap (2 * V0) = 2 * V0 := by rw [IntKind.wrap_i64]; omega
  have hn0 : (0 : Int) < (n : Int) := by omega
  clear hr hr0 hs hW s1 HT0
  go_enter Try.func35, Try.ntmps35
  go_wp2_with fail
  generalize (w.alloc (.cells #[.int .i64 a0, .int .i64 a1, .int .i64 a2, .int .i64 a3, .int .i64 a4, .int .i64 a5, .int .i64 a6, .int .i64 a7, .int .i64 a8] 24)) = w0 at *
  generalize hg : w.heap.size = g at *
  go_quiet (fail)
  have hbq : Below g w (w0.drewN nq) := below_drewN hb0 nq
  have hbq2 : Below w0.heap.size w0 (w0.drewN nq) := below_drewN (Below.refl _ _) nq
  go_wp2_with fail
  go_loopw [7, 20] (fun v i wr => ∃ (k : Nat) (N : Int), k ≤ n ∧ i = .int .i64 k ∧ v = .int .i64 N ∧ 0 ≤ N ∧ N ≤ 2000 * ((max k 1 : Nat) : Int) ∧ Hid (2 * TV = N + 2 * thr xs (stN ms (k - 1)) (ms.drop (max k 1))) ∧ Below w0.heap.size w0 wr) (fun _ i _ => n - (intOf i).toNat)
  case atStart => exact ⟨0, 2 * V0, Nat.zero_le _, rfl, rfl, by omega, by simp; omega, by unfold Hid; rw [HI.out, Nat.zero_sub, hst0]; rfl, hbq2⟩
  case round =>
    obtain ⟨k, N, hk, rfl, rfl, hN0, hN1, HT, hb⟩ := hrel
    have hbw := hb0.trans (hb.mono (by rw [← hg]; exact hb0.size))
    by_cases h : k < n
    · have hk1 : (k : Int) < (n : Int) := by omega
      cases k with
      | zero =>
        go_wp2_with fail
        go_roundw
        case rel => exact ⟨1, N, by omega, rfl, rfl, hN0, by simpa using hN1, HT, hb⟩
        case measure => simp [intOf]; omega
      | succ k =>
        obtain ⟨s1, s2⟩ := HS.out k (by omega)
        obtain ⟨t1, t2⟩ := HS.out (k + 1) (by omega)
        have x1 := (hc0 k (by omega)).2.1
        have x2 := (hc0 (k + 1) (by omega)).2.1
        have hlt := World.block_lt_of_cell? _ _ x1
        rw [s1] at x1
        rw [t1] at x2
        replace x1 := (hb.cell (p := ⟨b0, o0 + k * 3 + 1, none⟩) hlt).trans x1
        replace x2 := (hb.cell (p := ⟨b0, o0 + (k + 1) * 3 + 1, none⟩) hlt).trans x2
        have x3 := (hA.below hb).cell (i := stN ms k * 3 + stN ms (k + 1)) (by rw [HLX.out]; omega)
        change _ = some (Value.int .i64 (wv xs (stN ms k) (stN ms (k + 1)))) at x3
        have hv := HWB.out.at (stN ms k) (stN ms (k + 1))
        have HT2 : Hid (2 * TV = N + 2 * wv xs (stN ms k) (stN ms (k + 1)) + 2 * thr xs (stN ms (k + 1)) (ms.drop (k + 1 + 1))) := by
          have h1 := HT.out
          rw [Nat.add_sub_cancel, Nat.max_eq_left (by omega), HTD.out (k + 1) _ h] at h1
          unfold Hid
          omega
        rw [Nat.max_eq_left (by omega)] at hN1
        generalize wv xs (stN ms k) (stN ms (k + 1)) = V at *
        generalize hs3 : stN ms k = j1 at *
        generalize hs4 : stN ms (k + 1) = j2 at *
        have hj1 : (j1 : Int) < 3 := by omega
        have hj2 : (j2 : Int) < 3 := by omega
        have hw1 : IntKind.i64.wrap (2 * V) = 2 * V := by rw [IntKind.wrap_i64]; omega
        have hw2 : IntKind.i64.wrap (N + 2 * V) = N + 2 * V := by rw [IntKind.wrap_i64]; omega
        have hw3 : IntKind.i64.wrap ((k : Int) + 1 - 1) = (k : Int) := by rw [IntKind.wrap_i64]; omega
        have hk2 : (k : Int) < (n : Int) := by omega
        have hkp : decide ((0 : Int) < (k : Int) + 1) = true := decide_eq_true (by omega)
        clear HT s1 t1 HI hc0 hv0 w0c y0 hs3
        go_wp2_with fail
        go_quiet (fail)
        go_wp2_with fail
        go_roundw
        case rel => exact ⟨k + 1 + 1, N + 2 * V, by omega, by go_num, rfl, by omega, by rw [Nat.max_eq_left (by omega)]; omega, by unfold Hid; rw [HT2.out, Nat.max_eq_left (by omega), Nat.add_sub_cancel, hs4], below_drewN hb _⟩
        case measure => simp [intOf]; omega
    · obtain rfl : k = n := by omega
      have HN : Hid (2 * TV = N) := by
        unfold Hid
        rw [HT.out, Nat.max_eq_left (by omega), HTE.out]
        omega
      have hki : ¬ (k : Int) < (k : Int) := by omega
      clear HT HI
      go_wp2_with fail
      go_ret
      exact ⟨ret_int (by rw [← HN.out]), by first | exact hbw | (rw [hg]; exact hbw)⟩

set_option maxRecDepth 20000 in
set_option maxHeartbeats 2000000 in
theorem rWrite_ok (e : Int) (p : Option Addr) (n c : Nat) (ms : List Mb) (a0 a1 a2 a3 a4 a5 a6 a7 a8 : Int) (i0 : Nat) (hi0 : i0 < 3) (hk : chk e ms = true) (hw : okW [a0, a1, a2, a3, a4, a5, a6, a7, a8] = true) (w : World) (hr : RdM w p n c ms) (hn : n ≤ 5864062014805) :
    Calls Try.prog 18 #[.agg #[.int .i64 e, .slice p n c], .agg #[.int .i64 a0, .int .i64 a1, .int .i64 a2, .int .i64 a3, .int .i64 a4, .int .i64 a5, .int .i64 a6, .int .i64 a7, .int .i64 a8], .int .i64 (i0 : Int)] w fun r w' => r = .returned (.tuple #[.int .i64 (2 * thr [a0, a1, a2, a3, a4, a5, a6, a7, a8] i0 ms), .int .i64 0]) ∧ Below w.heap.size w w' := by
  have hb0 : Below w.heap.size w ((w.alloc (.cells #[.int .i64 e, .slice p n c] 33)).alloc (.cells #[.int .i64 a0, .int .i64 a1, .int .i64 a2, .int .i64 a3, .int .i64 a4, .int .i64 a5, .int .i64 a6, .int .i64 a7, .int .i64 a8] 24)) := ((Below.refl _ _).alloc (Nat.le_refl _) _).alloc (by simp) _
  have hA : ArrI 24 .i64 ((w.alloc (.cells #[.int .i64 e, .slice p n c] 33)).alloc (.cells #[.int .i64 a0, .int .i64 a1, .int .i64 a2, .int .i64 a3, .int .i64 a4, .int .i64 a5, .int .i64 a6, .int .i64 a7, .int .i64 a8] 24)) (w.heap.size + 1) [a0, a1, a2, a3, a4, a5, a6, a7, a8] := new_at (by simp) (nine_cells (t := 24) (w.alloc (.cells #[.int .i64 e, .slice p n c] 33)) a0 a1 a2 a3 a4 a5 a6 a7 a8)
  have hK : At 33 ((w.alloc (.cells #[.int .i64 e, .slice p n c] 33)).alloc (.cells #[.int .i64 a0, .int .i64 a1, .int .i64 a2, .int .i64 a3, .int .i64 a4, .int .i64 a5, .int .i64 a6, .int .i64 a7, .int .i64 a8] 24)) w.heap.size #[.int .i64 e, .slice p n c] := (At.new 33 w #[.int .i64 e, .slice p n c]).alloc _
  have hS : isSt (i0 : Int) = true := by unfold isSt; simp; omega
  have hO := may_any e p n c ms a0 a1 a2 a3 a4 a5 a6 a7 a8 (i0 : Int) _ (hr.below hb0) hn
  have hmy : mayR e ms [a0, a1, a2, a3, a4, a5, a6, a7, a8] (i0 : Int) = 0 := by unfold mayR; rw [if_pos hk, if_pos ⟨hw, hS⟩]
  rw [hmy] at hO
  have h6 := chk_six hk
  have hp := chk_pos hk
  have hl := hr.len
  have hss := fun m hm => chk_site hk (m := m) hm
  have hin := okW_in (B9 := [a0, a1, a2, a3, a4, a5, a6, a7, a8]) rfl hw
  clear hS hk hw hmy
  go_enter Try.func18, Try.ntmps18
  go_wp2_with fail
  refine hO.mono ?_
  rintro r w1 ⟨rfl, hb1⟩
  have hb2 := hb0.trans (hb1.mono hb0.size)
  obtain ⟨k0, k1⟩ := (hK.below hb1).two
  obtain ⟨c0, c1, c2, c3, c4, c5, c6, c7, c8⟩ := nine (hA.below hb1)
  have hC := Cost_any a0 a1 a2 a3 a4 a5 a6 a7 a8 i0 hi0 p n c ms hss hin _ (hr.below hb2) (by omega) (by omega)
  clear hO hr hA hK hb0 hb1
  go_wp2_with fail
  refine hC.mono ?_
  rintro r w2 ⟨rfl, hb3⟩
  go_wp2_with fail
  go_ret2
  exact ⟨rfl, hb2.trans (hb3.mono hb2.size)⟩

set_option maxRecDepth 20000 in
set_option maxHeartbeats 2000000 in
theorem rWrite_no (e : Int) (p : Option Addr) (n c : Nat) (ms : List Mb) (a0 a1 a2 a3 a4 a5 a6 a7 a8 : Int) (st ev : Int) (hev : mayR e ms [a0, a1, a2, a3, a4, a5, a6, a7, a8] st = ev) (h0 : ev ≠ 0) (w : World) (hr : RdM w p n c ms) (hn : n ≤ 5864062014805) :
    Calls Try.prog 18 #[.agg #[.int .i64 e, .slice p n c], .agg #[.int .i64 a0, .int .i64 a1, .int .i64 a2, .int .i64 a3, .int .i64 a4, .int .i64 a5, .int .i64 a6, .int .i64 a7, .int .i64 a8], .int .i64 st] w fun r w' => r = .returned (.tuple #[.int .i64 0, .int .i64 ev]) ∧ Below w.heap.size w w' := by
  have hb0 : Below w.heap.size w ((w.alloc (.cells #[.int .i64 e, .slice p n c] 33)).alloc (.cells #[.int .i64 a0, .int .i64 a1, .int .i64 a2, .int .i64 a3, .int .i64 a4, .int .i64 a5, .int .i64 a6, .int .i64 a7, .int .i64 a8] 24)) := ((Below.refl _ _).alloc (Nat.le_refl _) _).alloc (by simp) _
  have hA : ArrI 24 .i64 ((w.alloc (.cells #[.int .i64 e, .slice p n c] 33)).alloc (.cells #[.int .i64 a0, .int .i64 a1, .int .i64 a2, .int .i64 a3, .int .i64 a4, .int .i64 a5, .int .i64 a6, .int .i64 a7, .int .i64 a8] 24)) (w.heap.size + 1) [a0, a1, a2, a3, a4, a5, a6, a7, a8] := new_at (by simp) (nine_cells (t := 24) (w.alloc (.cells #[.int .i64 e, .slice p n c] 33)) a0 a1 a2 a3 a4 a5 a6 a7 a8)
  have hK : At 33 ((w.alloc (.cells #[.int .i64 e, .slice p n c] 33)).alloc (.cells #[.int .i64 a0, .int .i64 a1, .int .i64 a2, .int .i64 a3, .int .i64 a4, .int .i64 a5, .int .i64 a6, .int .i64 a7, .int .i64 a8] 24)) w.heap.size #[.int .i64 e, .slice p n c] := (At.new 33 w #[.int .i64 e, .slice p n c]).alloc _
  have hO := may_any e p n c ms a0 a1 a2 a3 a4 a5 a6 a7 a8 st _ (hr.below hb0) hn
  rw [hev] at hO
  have h0b : (ev != 0) = true := by simp [h0]
  clear hr hev h0 hA hK
  go_enter Try.func18, Try.ntmps18
  go_wp2_with fail
  refine hO.mono ?_
  rintro r w1 ⟨rfl, hb1⟩
  have hb2 := hb0.trans (hb1.mono hb0.size)
  clear hO hb1 hb0
  go_wp2_with fail
  go_ret2
  exact ⟨rfl, hb2⟩

set_option maxRecDepth 20000 in
set_option maxHeartbeats 2000000 in
theorem rNear_no (e : Int) (p : Option Addr) (n c : Nat) (ms : List Mb) (a0 a1 a2 a3 a4 a5 a6 a7 a8 : Int) (st ev : Int) (hev : mayR e ms [a0, a1, a2, a3, a4, a5, a6, a7, a8] st = ev) (h0 : ev ≠ 0) (w : World) (hr : RdM w p n c ms) (hn : n ≤ 5864062014805) :
    Calls Try.prog 16 #[.agg #[.int .i64 e, .slice p n c], .agg #[.int .i64 a0, .int .i64 a1, .int .i64 a2, .int .i64 a3, .int .i64 a4, .int .i64 a5, .int .i64 a6, .int .i64 a7, .int .i64 a8], .int .i64 st] w fun r w' => r = .returned (.tuple #[.slice none 0 0, .int .i64 ev]) ∧ Below w.heap.size w w' := by
  have hb0 : Below w.heap.size w ((w.alloc (.cells #[.int .i64 e, .slice p n c] 33)).alloc (.cells #[.int .i64 a0, .int .i64 a1, .int .i64 a2, .int .i64 a3, .int .i64 a4, .int .i64 a5, .int .i64 a6, .int .i64 a7, .int .i64 a8] 24)) := ((Below.refl _ _).alloc (Nat.le_refl _) _).alloc (by simp) _
  have hA : ArrI 24 .i64 ((w.alloc (.cells #[.int .i64 e, .slice p n c] 33)).alloc (.cells #[.int .i64 a0, .int .i64 a1, .int .i64 a2, .int .i64 a3, .int .i64 a4, .int .i64 a5, .int .i64 a6, .int .i64 a7, .int .i64 a8] 24)) (w.heap.size + 1) [a0, a1, a2, a3, a4, a5, a6, a7, a8] := new_at (by simp) (nine_cells (t := 24) (w.alloc (.cells #[.int .i64 e, .slice p n c] 33)) a0 a1 a2 a3 a4 a5 a6 a7 a8)
  have hK : At 33 ((w.alloc (.cells #[.int .i64 e, .slice p n c] 33)).alloc (.cells #[.int .i64 a0, .int .i64 a1, .int .i64 a2, .int .i64 a3, .int .i64 a4, .int .i64 a5, .int .i64 a6, .int .i64 a7, .int .i64 a8] 24)) w.heap.size #[.int .i64 e, .slice p n c] := (At.new 33 w #[.int .i64 e, .slice p n c]).alloc _
  have hO := may_any e p n c ms a0 a1 a2 a3 a4 a5 a6 a7 a8 st _ (hr.below hb0) hn
  rw [hev] at hO
  have h0b : (ev != 0) = true := by simp [h0]
  clear hr hev h0 hA hK
  go_enter Try.func16, Try.ntmps16
  go_wp2_with fail
  refine hO.mono ?_
  rintro r w1 ⟨rfl, hb1⟩
  have hb2 := hb0.trans (hb1.mono hb0.size)
  clear hO hb1 hb0
  go_wp2_with fail
  go_ret2
  exact ⟨rfl, hb2⟩

end Go.Proofs.Ytdjeafaaclhpkaa.M
