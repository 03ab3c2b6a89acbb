/-
  Own text: the walk of the law MaskAround.
-/
import Derived.Test.YtbbcondoenmapadDoorKAt
import Derived.Test.YtbbcondoenmapadDoorOpen
namespace Go.Proofs.YtbbcondoenmapadDoor.M
open Go.ChangeShapes Go.WideShapes Go.ChangeAt Go.RowKit

theorem hasN_nat {x k : Nat} (h : k < 64) : hasN x (k : Int) = x.testBit k := by
  unfold hasN
  rw [decide_eq_true (by omega), Int.toNat_natCast]
  rfl

theorem rankN_nat {x k : Nat} (h : k < 64) : rankN x (k : Int) = rk x k := by
  unfold rankN
  rw [Int.toNat_natCast, Nat.min_eq_left (by omega)]

set_option maxRecDepth 20000 in
theorem around_true_in (x : Nat) (n : Int) (w : World) (px : Nat) (_hp : px ≤ 64)
    (c1 : ∀ W, Calls Tryd.prog 15 #[.int .u64 x, .int .i64 n] W fun e w' => e = .returned (.bool true) ∧ w' = W)
    (r : Nat) (c2 : ∀ W, Calls Tryd.prog 17 #[.int .u64 x, .int .i64 n] W fun e w' => e = .returned (.int .i64 r) ∧ w' = W)
    (c3 : Calls Tryd.prog 16 #[.int .u64 x, .int .i64 r] w fun e w' => e = .returned (.int .i64 n) ∧ w' = w)
    (hn0 : 0 ≤ n) (hnp : n < px) (c4 : Calls Tryd.prog 16 #[.int .u64 x, .int .i64 n] w fun e w' => ∃ k : Nat, e = .returned (.int .i64 k) ∧ Hid (k < 64 ∧ x.testBit k = true ∧ (rk x k : Int) = n) ∧ w' = w)
    (c6 : ∀ (k : Nat) W, Hid (k < 64 ∧ x.testBit k = true ∧ (rk x k : Int) = n) → Calls Tryd.prog 15 #[.int .u64 x, .int .i64 k] W fun e w' => e = .returned (.bool true) ∧ w' = W)
    (c7 : ∀ (k : Nat) W, Hid (k < 64 ∧ x.testBit k = true ∧ (rk x k : Int) = n) → Calls Tryd.prog 17 #[.int .u64 x, .int .i64 k] W fun e w' => e = .returned (.int .i64 n) ∧ w' = W)
    (c8 : ∀ W, Calls Tryd.prog 13 #[.int .u64 x] W fun e w' => e = .returned (.int .i64 px) ∧ w' = W)
    (c9 : Calls Tryd.prog 14 #[] w fun e w' => e = .returned (.bool true) ∧ Below w.heap.size w w') :
    Calls Tryd.prog 4 #[.int .u64 x, .int .i64 n] w fun e w' => e = .returned (.bool true) ∧ Below w.heap.size w w' := by
  have hd1 : decide (n < 0) = false := decide_eq_false (by omega)
  have hd2 : decide ((px : Int) ≤ n) = false := decide_eq_false (by omega)
  go_enter Tryd.func4, Tryd.ntmps4
  go_wp2_with fail
  refine (c1 _).mono ?_
  rintro e w1 ⟨rfl, hw⟩
  subst hw
  go_wp2_with fail
  refine (c2 _).mono ?_
  rintro e w1 ⟨rfl, hw⟩
  subst hw
  go_wp2_with fail
  refine c3.mono ?_
  rintro e w1 ⟨rfl, hw⟩
  subst hw
  go_wp2_with fail
  refine c4.mono ?_
  rintro e w1 ⟨k, rfl, hk, hw⟩
  subst hw
  have hk0 : decide ((k : Int) < 0) = false := decide_eq_false (by omega)
  go_wp2_with fail
  refine (c6 k _ hk).mono ?_
  rintro e w1 ⟨rfl, hw⟩
  subst hw
  go_wp2_with fail
  refine (c7 k _ hk).mono ?_
  rintro e w1 ⟨rfl, hw⟩
  subst hw
  go_wp2_with fail
  refine (c8 _).mono ?_
  rintro e w1 ⟨rfl, hw⟩
  subst hw
  go_wp2_with fail
  refine c9.mono ?_
  rintro e w1 ⟨rfl, hb⟩
  go_wp2_with fail
  go_ret
  exact ⟨rfl, hb⟩

set_option maxRecDepth 20000 in
theorem around_true_out (x : Nat) (n : Int) (w : World) (px : Nat) (_hp : px ≤ 64)
    (c1 : ∀ W, Calls Tryd.prog 15 #[.int .u64 x, .int .i64 n] W fun e w' => e = .returned (.bool true) ∧ w' = W)
    (r : Nat) (c2 : ∀ W, Calls Tryd.prog 17 #[.int .u64 x, .int .i64 n] W fun e w' => e = .returned (.int .i64 r) ∧ w' = W)
    (c3 : Calls Tryd.prog 16 #[.int .u64 x, .int .i64 r] w fun e w' => e = .returned (.int .i64 n) ∧ w' = w)
    (hn : n < 0 ∨ (px : Int) ≤ n) (c4 : Calls Tryd.prog 16 #[.int .u64 x, .int .i64 n] w fun e w' => e = .returned (.int .i64 (-1)) ∧ w' = w)
    (c8 : ∀ W, Calls Tryd.prog 13 #[.int .u64 x] W fun e w' => e = .returned (.int .i64 px) ∧ w' = W)
    (c9 : Calls Tryd.prog 14 #[] w fun e w' => e = .returned (.bool true) ∧ Below w.heap.size w w') :
    Calls Tryd.prog 4 #[.int .u64 x, .int .i64 n] w fun e w' => e = .returned (.bool true) ∧ Below w.heap.size w w' := by
  by_cases h0 : n < 0
  · clear hn
    go_enter Tryd.func4, Tryd.ntmps4
    go_wp2_with fail
    refine (c1 _).mono ?_
    rintro e w1 ⟨rfl, hw⟩
    subst hw
    go_wp2_with fail
    refine (c2 _).mono ?_
    rintro e w1 ⟨rfl, hw⟩
    subst hw
    go_wp2_with fail
    refine c3.mono ?_
    rintro e w1 ⟨rfl, hw⟩
    subst hw
    go_wp2_with fail
    refine c4.mono ?_
    rintro e w1 ⟨rfl, hw⟩
    subst hw
    go_wp2_with fail
    refine c9.mono ?_
    rintro e w1 ⟨rfl, hb⟩
    go_wp2_with fail
    go_ret
    exact ⟨rfl, hb⟩
  · have h1 : (px : Int) ≤ n := by omega
    clear hn
    go_enter Tryd.func4, Tryd.ntmps4
    go_wp2_with fail
    refine (c1 _).mono ?_
    rintro e w1 ⟨rfl, hw⟩
    subst hw
    go_wp2_with fail
    refine (c2 _).mono ?_
    rintro e w1 ⟨rfl, hw⟩
    subst hw
    go_wp2_with fail
    refine c3.mono ?_
    rintro e w1 ⟨rfl, hw⟩
    subst hw
    go_wp2_with fail
    refine c4.mono ?_
    rintro e w1 ⟨rfl, hw⟩
    subst hw
    go_wp2_with fail
    refine (c8 _).mono ?_
    rintro e w1 ⟨rfl, hw⟩
    subst hw
    go_wp2_with fail
    refine c9.mono ?_
    rintro e w1 ⟨rfl, hb⟩
    go_wp2_with fail
    go_ret
    exact ⟨rfl, hb⟩

set_option maxRecDepth 20000 in
theorem around_false_in (x : Nat) (n : Int) (w : World) (px : Nat) (_hp : px ≤ 64)
    (c1 : ∀ W, Calls Tryd.prog 15 #[.int .u64 x, .int .i64 n] W fun e w' => e = .returned (.bool false) ∧ w' = W)
    (hn0 : 0 ≤ n) (hnp : n < px) (c4 : Calls Tryd.prog 16 #[.int .u64 x, .int .i64 n] w fun e w' => ∃ k : Nat, e = .returned (.int .i64 k) ∧ Hid (k < 64 ∧ x.testBit k = true ∧ (rk x k : Int) = n) ∧ w' = w)
    (c6 : ∀ (k : Nat) W, Hid (k < 64 ∧ x.testBit k = true ∧ (rk x k : Int) = n) → Calls Tryd.prog 15 #[.int .u64 x, .int .i64 k] W fun e w' => e = .returned (.bool true) ∧ w' = W)
    (c7 : ∀ (k : Nat) W, Hid (k < 64 ∧ x.testBit k = true ∧ (rk x k : Int) = n) → Calls Tryd.prog 17 #[.int .u64 x, .int .i64 k] W fun e w' => e = .returned (.int .i64 n) ∧ w' = W)
    (c8 : ∀ W, Calls Tryd.prog 13 #[.int .u64 x] W fun e w' => e = .returned (.int .i64 px) ∧ w' = W)
    (c9 : Calls Tryd.prog 14 #[] w fun e w' => e = .returned (.bool true) ∧ Below w.heap.size w w') :
    Calls Tryd.prog 4 #[.int .u64 x, .int .i64 n] w fun e w' => e = .returned (.bool true) ∧ Below w.heap.size w w' := by
  have hd1 : decide (n < 0) = false := decide_eq_false (by omega)
  have hd2 : decide ((px : Int) ≤ n) = false := decide_eq_false (by omega)
  go_enter Tryd.func4, Tryd.ntmps4
  go_wp2_with fail
  refine (c1 _).mono ?_
  rintro e w1 ⟨rfl, hw⟩
  subst hw
  go_wp2_with fail
  refine c4.mono ?_
  rintro e w1 ⟨k, rfl, hk, hw⟩
  subst hw
  have hk0 : decide ((k : Int) < 0) = false := decide_eq_false (by omega)
  go_wp2_with fail
  refine (c6 k _ hk).mono ?_
  rintro e w1 ⟨rfl, hw⟩
  subst hw
  go_wp2_with fail
  refine (c7 k _ hk).mono ?_
  rintro e w1 ⟨rfl, hw⟩
  subst hw
  go_wp2_with fail
  refine (c8 _).mono ?_
  rintro e w1 ⟨rfl, hw⟩
  subst hw
  go_wp2_with fail
  refine c9.mono ?_
  rintro e w1 ⟨rfl, hb⟩
  go_wp2_with fail
  go_ret
  exact ⟨rfl, hb⟩

set_option maxRecDepth 20000 in
theorem around_false_out (x : Nat) (n : Int) (w : World) (px : Nat) (_hp : px ≤ 64)
    (c1 : ∀ W, Calls Tryd.prog 15 #[.int .u64 x, .int .i64 n] W fun e w' => e = .returned (.bool false) ∧ w' = W)
    (hn : n < 0 ∨ (px : Int) ≤ n) (c4 : Calls Tryd.prog 16 #[.int .u64 x, .int .i64 n] w fun e w' => e = .returned (.int .i64 (-1)) ∧ w' = w)
    (c8 : ∀ W, Calls Tryd.prog 13 #[.int .u64 x] W fun e w' => e = .returned (.int .i64 px) ∧ w' = W)
    (c9 : Calls Tryd.prog 14 #[] w fun e w' => e = .returned (.bool true) ∧ Below w.heap.size w w') :
    Calls Tryd.prog 4 #[.int .u64 x, .int .i64 n] w fun e w' => e = .returned (.bool true) ∧ Below w.heap.size w w' := by
  by_cases h0 : n < 0
  · clear hn
    go_enter Tryd.func4, Tryd.ntmps4
    go_wp2_with fail
    refine (c1 _).mono ?_
    rintro e w1 ⟨rfl, hw⟩
    subst hw
    go_wp2_with fail
    refine c4.mono ?_
    rintro e w1 ⟨rfl, hw⟩
    subst hw
    go_wp2_with fail
    refine c9.mono ?_
    rintro e w1 ⟨rfl, hb⟩
    go_wp2_with fail
    go_ret
    exact ⟨rfl, hb⟩
  · have h1 : (px : Int) ≤ n := by omega
    clear hn
    go_enter Tryd.func4, Tryd.ntmps4
    go_wp2_with fail
    refine (c1 _).mono ?_
    rintro e w1 ⟨rfl, hw⟩
    subst hw
    go_wp2_with fail
    refine c4.mono ?_
    rintro e w1 ⟨rfl, hw⟩
    subst hw
    go_wp2_with fail
    refine (c8 _).mono ?_
    rintro e w1 ⟨rfl, hw⟩
    subst hw
    go_wp2_with fail
    refine c9.mono ?_
    rintro e w1 ⟨rfl, hb⟩
    go_wp2_with fail
    go_ret
    exact ⟨rfl, hb⟩

theorem walk_MaskAround (w : World) (hT : Tab w) (a : Int) (wa : (Lit.int .u64 a).wf = true) (n : Int) (wn : (Lit.int .i64 n).wf = true) :
    Calls Tryd.prog 4 #[.int .u64 a, .int .i64 n] w fun e w' => e = .returned (.bool true) ∧ Below w.heap.size w w' := by
  have ba := u64_bounds wa
  have bn := i64_bounds wn
  obtain ⟨x, rfl⟩ := Int.eq_ofNat_of_zero_le ba.1
  have hx : x < 18446744073709551616 := by omega
  have c1 := fun W => has_any x n W hx
  have c2 := fun W => rank_any x n W hx bn.2
  have c8 := fun W => len_any x W hx
  have c9 := awake_any w hT
  have hp := pop_le x
  have c3 : hasN x n = true → Calls Tryd.prog 16 #[.int .u64 x, .int .i64 (rankN x n)] w fun e w' => e = .returned (.int .i64 n) ∧ w' = w := by
    intro h
    unfold hasN at h
    rw [Bool.and_eq_true] at h
    have hr := of_decide_eq_true h.1
    obtain ⟨k, rfl⟩ := Int.eq_ofNat_of_zero_le hr.1
    have hk : k < 64 := by omega
    have hb : x.testBit k = true := h.2
    rw [rankN_nat hk]
    refine (at_any x (rk x k) w hx (cnt_at (p := bt x) hk hb) hT).mono ?_
    rintro e w' ⟨m, rfl, hm, hbm, hrm, rfl⟩
    obtain rfl : m = k := cnt_uniq (p := bt x) hbm hb hrm
    exact ⟨rfl, rfl⟩
  by_cases hn : 0 ≤ n ∧ n < (pop x : Int)
  · have c4 : Calls Tryd.prog 16 #[.int .u64 x, .int .i64 n] w fun e w' => ∃ k : Nat, e = .returned (.int .i64 k) ∧ Hid (k < 64 ∧ x.testBit k = true ∧ (rk x k : Int) = n) ∧ w' = w := by
      obtain ⟨i, rfl⟩ := Int.eq_ofNat_of_zero_le hn.1
      refine (at_any x i w hx (by omega) hT).mono ?_
      rintro e w' ⟨m, rfl, hm, hbm, hrm, rfl⟩
      exact ⟨m, rfl, ⟨hm, hbm, by rw [hrm]⟩, rfl⟩
    have c6 : ∀ (k : Nat) W, Hid (k < 64 ∧ x.testBit k = true ∧ (rk x k : Int) = n) → Calls Tryd.prog 15 #[.int .u64 x, .int .i64 k] W fun e w' => e = .returned (.bool true) ∧ w' = W := by
      intro k W hk
      have h := has_any x (k : Int) W hx
      rw [hasN_nat hk.out.1, hk.out.2.1] at h
      exact h
    have c7 : ∀ (k : Nat) W, Hid (k < 64 ∧ x.testBit k = true ∧ (rk x k : Int) = n) → Calls Tryd.prog 17 #[.int .u64 x, .int .i64 k] W fun e w' => e = .returned (.int .i64 n) ∧ w' = W := by
      intro k W hk
      have h0 := hk.out.1
      have h := rank_any x (k : Int) W hx (by omega)
      rw [rankN_nat h0, hk.out.2.2] at h
      exact h
    cases hh : hasN x n with
    | true =>
      have c3' := c3 hh
      rw [hh] at c1
      exact around_true_in x n w (pop x) hp c1 _ c2 c3' hn.1 hn.2 c4 c6 c7 c8 c9
    | false =>
      rw [hh] at c1
      exact around_false_in x n w (pop x) hp c1 hn.1 hn.2 c4 c6 c7 c8 c9
  · have hn' : n < 0 ∨ (pop x : Int) ≤ n := by omega
    have c4 := at_none x n w hx hn'
    cases hh : hasN x n with
    | true =>
      have c3' := c3 hh
      rw [hh] at c1
      exact around_true_out x n w (pop x) hp c1 _ c2 c3' hn' c4 c8 c9
    | false =>
      rw [hh] at c1
      exact around_false_out x n w (pop x) hp c1 hn' c4 c8 c9

end Go.Proofs.YtbbcondoenmapadDoor.M
