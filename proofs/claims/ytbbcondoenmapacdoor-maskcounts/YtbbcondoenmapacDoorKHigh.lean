/-
  Own text: contracts of the library's Len64 and of mask's High, and where the greatest number of a set stands.
-/
import Derived.Test.YtbbcondoenmapacDoorKAll
import Derived.Lib.Tables
import Derived.Lib.BitFns
namespace Go.Proofs.YtbbcondoenmapacDoor.M
open Go.ChangeShapes Go.WideShapes Go.ChangeAt Go.RowKit

set_option maxRecDepth 20000 in
theorem len64_111 (x y z t r : Nat) (w : World) (hd1 : (4294967296 : Int) ≤ x) (e1 : (x : Int) / 4294967296 = y) (hd2 : (65536 : Int) ≤ y) (e2 : (y : Int) / 65536 = z) (hd3 : (256 : Int) ≤ z) (e3 : (z : Int) / 256 = t) (_hl0 : (t : Int) ≤ 255) (_hl1 : (0 : Int) ≤ t) (_hm : (t : Int) % 256 = t) (hr : Lib.len8 (t : Int) = r) (hr8 : r ≤ 8) :
    Calls Tryd.prog 37 #[.int .u64 x] w fun e w' => e = .returned (.int .i64 ((56 + r : Nat) : Int)) ∧ w' = w := by
  go_enter Tryd.func37, Tryd.ntmps37
  go_wp2_with fail
  go_ret
  exact ⟨ret_int (by omega), rfl⟩

set_option maxRecDepth 20000 in
theorem len64_110 (x y z r : Nat) (w : World) (hd1 : (4294967296 : Int) ≤ x) (e1 : (x : Int) / 4294967296 = y) (hd2 : (65536 : Int) ≤ y) (e2 : (y : Int) / 65536 = z) (hd3 : decide ((256 : Int) ≤ z) = false) (_hl0 : (z : Int) ≤ 255) (_hl1 : (0 : Int) ≤ z) (_hm : (z : Int) % 256 = z) (hr : Lib.len8 (z : Int) = r) (hr8 : r ≤ 8) :
    Calls Tryd.prog 37 #[.int .u64 x] w fun e w' => e = .returned (.int .i64 ((48 + r : Nat) : Int)) ∧ w' = w := by
  go_enter Tryd.func37, Tryd.ntmps37
  go_wp2_with fail
  go_ret
  exact ⟨ret_int (by omega), rfl⟩

set_option maxRecDepth 20000 in
theorem len64_101 (x y t r : Nat) (w : World) (hd1 : (4294967296 : Int) ≤ x) (e1 : (x : Int) / 4294967296 = y) (hd2 : decide ((65536 : Int) ≤ y) = false) (hd3 : (256 : Int) ≤ y) (e3 : (y : Int) / 256 = t) (_hl0 : (t : Int) ≤ 255) (_hl1 : (0 : Int) ≤ t) (_hm : (t : Int) % 256 = t) (hr : Lib.len8 (t : Int) = r) (hr8 : r ≤ 8) :
    Calls Tryd.prog 37 #[.int .u64 x] w fun e w' => e = .returned (.int .i64 ((40 + r : Nat) : Int)) ∧ w' = w := by
  go_enter Tryd.func37, Tryd.ntmps37
  go_wp2_with fail
  go_ret
  exact ⟨ret_int (by omega), rfl⟩

set_option maxRecDepth 20000 in
theorem len64_100 (x y r : Nat) (w : World) (hd1 : (4294967296 : Int) ≤ x) (e1 : (x : Int) / 4294967296 = y) (hd2 : decide ((65536 : Int) ≤ y) = false) (hd3 : decide ((256 : Int) ≤ y) = false) (_hl0 : (y : Int) ≤ 255) (_hl1 : (0 : Int) ≤ y) (_hm : (y : Int) % 256 = y) (hr : Lib.len8 (y : Int) = r) (hr8 : r ≤ 8) :
    Calls Tryd.prog 37 #[.int .u64 x] w fun e w' => e = .returned (.int .i64 ((32 + r : Nat) : Int)) ∧ w' = w := by
  go_enter Tryd.func37, Tryd.ntmps37
  go_wp2_with fail
  go_ret
  exact ⟨ret_int (by omega), rfl⟩

set_option maxRecDepth 20000 in
theorem len64_011 (x z t r : Nat) (w : World) (hd1 : decide ((4294967296 : Int) ≤ x) = false) (hd2 : (65536 : Int) ≤ x) (e2 : (x : Int) / 65536 = z) (hd3 : (256 : Int) ≤ z) (e3 : (z : Int) / 256 = t) (_hl0 : (t : Int) ≤ 255) (_hl1 : (0 : Int) ≤ t) (_hm : (t : Int) % 256 = t) (hr : Lib.len8 (t : Int) = r) (hr8 : r ≤ 8) :
    Calls Tryd.prog 37 #[.int .u64 x] w fun e w' => e = .returned (.int .i64 ((24 + r : Nat) : Int)) ∧ w' = w := by
  go_enter Tryd.func37, Tryd.ntmps37
  go_wp2_with fail
  go_ret
  exact ⟨ret_int (by omega), rfl⟩

set_option maxRecDepth 20000 in
theorem len64_010 (x z r : Nat) (w : World) (hd1 : decide ((4294967296 : Int) ≤ x) = false) (hd2 : (65536 : Int) ≤ x) (e2 : (x : Int) / 65536 = z) (hd3 : decide ((256 : Int) ≤ z) = false) (_hl0 : (z : Int) ≤ 255) (_hl1 : (0 : Int) ≤ z) (_hm : (z : Int) % 256 = z) (hr : Lib.len8 (z : Int) = r) (hr8 : r ≤ 8) :
    Calls Tryd.prog 37 #[.int .u64 x] w fun e w' => e = .returned (.int .i64 ((16 + r : Nat) : Int)) ∧ w' = w := by
  go_enter Tryd.func37, Tryd.ntmps37
  go_wp2_with fail
  go_ret
  exact ⟨ret_int (by omega), rfl⟩

set_option maxRecDepth 20000 in
theorem len64_001 (x t r : Nat) (w : World) (hd1 : decide ((4294967296 : Int) ≤ x) = false) (hd2 : decide ((65536 : Int) ≤ x) = false) (hd3 : (256 : Int) ≤ x) (e3 : (x : Int) / 256 = t) (_hl0 : (t : Int) ≤ 255) (_hl1 : (0 : Int) ≤ t) (_hm : (t : Int) % 256 = t) (hr : Lib.len8 (t : Int) = r) (hr8 : r ≤ 8) :
    Calls Tryd.prog 37 #[.int .u64 x] w fun e w' => e = .returned (.int .i64 ((8 + r : Nat) : Int)) ∧ w' = w := by
  go_enter Tryd.func37, Tryd.ntmps37
  go_wp2_with fail
  go_ret
  exact ⟨ret_int (by omega), rfl⟩

set_option maxRecDepth 20000 in
theorem len64_000 (x r : Nat) (w : World) (hd1 : decide ((4294967296 : Int) ≤ x) = false) (hd2 : decide ((65536 : Int) ≤ x) = false) (hd3 : decide ((256 : Int) ≤ x) = false) (_hl0 : (x : Int) ≤ 255) (_hl1 : (0 : Int) ≤ x) (_hm : (x : Int) % 256 = x) (hr : Lib.len8 (x : Int) = r) (hr8 : r ≤ 8) :
    Calls Tryd.prog 37 #[.int .u64 x] w fun e w' => e = .returned (.int .i64 ((0 + r : Nat) : Int)) ∧ w' = w := by
  go_enter Tryd.func37, Tryd.ntmps37
  go_wp2_with fail
  go_ret
  exact ⟨ret_int (by omega), rfl⟩

theorem len8_nat (x : Nat) (h : x < 256) : Lib.len8 (x : Int) = (Lib.bitLen x : Int) ∧ Lib.bitLen x ≤ 8 := ⟨Lib.len8_eq ⟨x, h⟩, Lib.bitLen_le8 ⟨x, h⟩⟩

theorem ret_len {w : World} {a b : Nat} (h : b = a) {x : Nat} (c : Calls Tryd.prog 37 #[.int .u64 x] w fun e w' => e = .returned (.int .i64 (a : Int)) ∧ w' = w) : Calls Tryd.prog 37 #[.int .u64 x] w fun e w' => e = .returned (.int .i64 (b : Int)) ∧ w' = w := by
  rw [h]; exact c

theorem len64_any (x : Nat) (w : World) (hx : x < 18446744073709551616) :
    Calls Tryd.prog 37 #[.int .u64 x] w fun e w' => e = .returned (.int .i64 (Lib.bitLen x)) ∧ w' = w := by
  by_cases h0 : 4294967296 ≤ x
  · by_cases h1 : 65536 ≤ x / 4294967296
    · by_cases h2 : 256 ≤ x / 4294967296 / 65536
      · obtain ⟨l1, l2⟩ := len8_nat (x / 4294967296 / 65536 / 256) (by omega)
        refine ret_len ?_ (len64_111 x (x / 4294967296) (x / 4294967296 / 65536) (x / 4294967296 / 65536 / 256) (Lib.bitLen (x / 4294967296 / 65536 / 256)) w (by omega) (by omega) (by omega) (by omega) (by omega) (by omega) (by omega) (by omega) (by omega) l1 l2)
        rw [Lib.bitLen_shift32 (x) (by omega) (by omega), Lib.bitLen_shift16 (x / 4294967296) (by omega) (by omega), Lib.bitLen_shift8 (x / 4294967296 / 65536) (by omega) (by omega)]
        omega
      · obtain ⟨l1, l2⟩ := len8_nat (x / 4294967296 / 65536) (by omega)
        refine ret_len ?_ (len64_110 x (x / 4294967296) (x / 4294967296 / 65536) (Lib.bitLen (x / 4294967296 / 65536)) w (by omega) (by omega) (by omega) (by omega) (decide_eq_false (by omega)) (by omega) (by omega) (by omega) l1 l2)
        rw [Lib.bitLen_shift32 (x) (by omega) (by omega), Lib.bitLen_shift16 (x / 4294967296) (by omega) (by omega)]
        omega
    · by_cases h2 : 256 ≤ x / 4294967296
      · obtain ⟨l1, l2⟩ := len8_nat (x / 4294967296 / 256) (by omega)
        refine ret_len ?_ (len64_101 x (x / 4294967296) (x / 4294967296 / 256) (Lib.bitLen (x / 4294967296 / 256)) w (by omega) (by omega) (decide_eq_false (by omega)) (by omega) (by omega) (by omega) (by omega) (by omega) l1 l2)
        rw [Lib.bitLen_shift32 (x) (by omega) (by omega), Lib.bitLen_shift8 (x / 4294967296) (by omega) (by omega)]
        omega
      · obtain ⟨l1, l2⟩ := len8_nat (x / 4294967296) (by omega)
        refine ret_len ?_ (len64_100 x (x / 4294967296) (Lib.bitLen (x / 4294967296)) w (by omega) (by omega) (decide_eq_false (by omega)) (decide_eq_false (by omega)) (by omega) (by omega) (by omega) l1 l2)
        rw [Lib.bitLen_shift32 (x) (by omega) (by omega)]
  · by_cases h1 : 65536 ≤ x
    · by_cases h2 : 256 ≤ x / 65536
      · obtain ⟨l1, l2⟩ := len8_nat (x / 65536 / 256) (by omega)
        refine ret_len ?_ (len64_011 x (x / 65536) (x / 65536 / 256) (Lib.bitLen (x / 65536 / 256)) w (decide_eq_false (by omega)) (by omega) (by omega) (by omega) (by omega) (by omega) (by omega) (by omega) l1 l2)
        rw [Lib.bitLen_shift16 (x) (by omega) (by omega), Lib.bitLen_shift8 (x / 65536) (by omega) (by omega)]
        omega
      · obtain ⟨l1, l2⟩ := len8_nat (x / 65536) (by omega)
        refine ret_len ?_ (len64_010 x (x / 65536) (Lib.bitLen (x / 65536)) w (decide_eq_false (by omega)) (by omega) (by omega) (decide_eq_false (by omega)) (by omega) (by omega) (by omega) l1 l2)
        rw [Lib.bitLen_shift16 (x) (by omega) (by omega)]
    · by_cases h2 : 256 ≤ x
      · obtain ⟨l1, l2⟩ := len8_nat (x / 256) (by omega)
        refine ret_len ?_ (len64_001 x (x / 256) (Lib.bitLen (x / 256)) w (decide_eq_false (by omega)) (decide_eq_false (by omega)) (by omega) (by omega) (by omega) (by omega) (by omega) l1 l2)
        rw [Lib.bitLen_shift8 (x) (by omega) (by omega)]
      · obtain ⟨l1, l2⟩ := len8_nat (x) (by omega)
        refine ret_len ?_ (len64_000 x  (Lib.bitLen (x)) w (decide_eq_false (by omega)) (decide_eq_false (by omega)) (decide_eq_false (by omega)) (by omega) (by omega) (by omega) l1 l2)
        omega

set_option maxRecDepth 20000 in
theorem high_any (x : Nat) (w : World) (hx : x < 18446744073709551616) :
    Calls Tryd.prog 19 #[.int .u64 x] w fun e w' => e = .returned (.int .i64 ((Lib.bitLen x : Int) - 1)) ∧ w' = w := by
  have c := len64_any x w hx
  have hl : Lib.bitLen x ≤ 64 := Lib.bitLenAux_le 64 x 64 hx
  generalize Lib.bitLen x = z at c hl ⊢
  go_enter Tryd.func19, Tryd.ntmps19
  go_wp2_with fail
  refine c.mono ?_
  rintro e w1 ⟨rfl, hw⟩
  subst hw
  go_wp2_with fail
  go_ret
  exact ⟨rfl, rfl⟩

theorem bitLen_spec : ∀ (f x k : Nat), Lib.bitLenAux f x = k + 1 → x < 2 ^ f → x.testBit k = true ∧ ∀ j, k < j → x.testBit j = false
  | 0, x, k, h, _ => by simp [Lib.bitLenAux] at h
  | f + 1, x, k, h, hx => by
    simp only [Lib.bitLenAux] at h
    by_cases h0 : x = 0
    · rw [if_pos h0] at h; omega
    · rw [if_neg h0] at h
      rw [Nat.pow_succ] at hx
      cases k with
      | zero =>
        have h1 : Lib.bitLenAux f (x / 2) = 0 := by omega
        have h2 : x / 2 = 0 := by
          cases f with
          | zero => simp at hx; omega
          | succ f' =>
            simp only [Lib.bitLenAux] at h1
            by_cases h3 : x / 2 = 0
            · exact h3
            · rw [if_neg h3] at h1; omega
        have h4 : x = 1 := by omega
        subst h4
        exact ⟨by decide, fun j hj => by
          apply Nat.testBit_lt_two_pow
          have : 2 ^ 1 ≤ 2 ^ j := Nat.pow_le_pow_right (by decide) (by omega)
          omega⟩
      | succ k' =>
        obtain ⟨a, b⟩ := bitLen_spec f (x / 2) k' (by omega) (by omega)
        refine ⟨by rw [Nat.testBit_succ]; exact a, fun j hj => ?_⟩
        obtain ⟨j', rfl⟩ : ∃ j', j = j' + 1 := ⟨j - 1, by omega⟩
        rw [Nat.testBit_succ]
        exact b j' (by omega)

/-- The greatest number is the list's last one. -/
theorem high_last {x : Nat} (hx : x < 18446744073709551616) (h0 : 0 < pop x) : (Lib.bitLen x : Int) - 1 = (allL (bt x) 64).getD (pop x - 1) 0 := by
  obtain ⟨j, hj, hp, hc, hg⟩ := allL_get (bt x) 64 (pop x - 1) (by show _ < pop x; omega)
  rw [hg]
  have hb : Lib.bitLen x ≠ 0 := by
    intro e
    have : x = 0 := by
      unfold Lib.bitLen at e
      rw [show (64 : Nat) = 63 + 1 from rfl] at e
      simp only [Lib.bitLenAux] at e
      by_cases h3 : x = 0
      · exact h3
      · rw [if_neg h3] at e; omega
    subst this
    revert h0
    decide
  obtain ⟨k, hk⟩ : ∃ k, Lib.bitLen x = k + 1 := ⟨Lib.bitLen x - 1, by omega⟩
  have hl : Lib.bitLen x ≤ 64 := Lib.bitLenAux_le 64 x 64 hx
  obtain ⟨s1, s2⟩ := bitLen_spec 64 x k hk hx
  have hkc : cnt (bt x) 64 = cnt (bt x) (k + 1) := by
    obtain ⟨m, hm⟩ := Nat.exists_eq_add_of_le (show k + 1 ≤ 64 by omega)
    rw [hm, cnt_add]
    have : cnt (fun i => bt x (k + 1 + i)) m = cnt (fun _ => false) m := cnt_congr m fun i _ => s2 _ (by omega)
    rw [this, cnt_false]
    rfl
  have hk1 : cnt (bt x) (k + 1) = cnt (bt x) k + 1 := cnt_step s1
  have hpp : pop x = cnt (bt x) 64 := rfl
  obtain rfl : k = j := cnt_uniq (p := bt x) s1 hp (by omega)
  rw [hk]
  omega

/-- The least one is its first. -/
theorem low_first {x : Nat} (hx : x < 18446744073709551616) (h0 : 0 < pop x) : 0 < x ∧ (tz x : Int) = (allL (bt x) 64).getD 0 0 := by
  obtain ⟨j, hj, hp, hc, hg⟩ := allL_get (bt x) 64 0 h0
  have hx0 : 0 < x := by
    rcases Nat.eq_zero_or_pos x with h | h
    · subst h; simp [bt] at hp
    · exact h
  obtain ⟨t1, t2⟩ := tz_spec hx0 hx
  have hz : cnt (bt x) (tz x) = 0 := by
    have e : cnt (bt x) (tz x) = cnt (fun _ => false) (tz x) := cnt_congr (tz x) fun i hi => t2 i hi
    rw [e, cnt_false]
  obtain rfl : tz x = j := cnt_uniq (p := bt x) t1 hp (by omega)
  exact ⟨hx0, hg.symm⟩

theorem pop_zero {x : Nat} (hx : x < 18446744073709551616) (h0 : pop x = 0) : x = 0 := by
  apply Nat.eq_of_testBit_eq
  intro j
  rw [Nat.zero_testBit]
  by_cases hj : j < 64
  · cases hb : x.testBit j with
    | false => rfl
    | true =>
      have := cnt_at (p := bt x) hj hb
      have hpp : pop x = cnt (bt x) 64 := rfl
      omega
  · exact testBit_high hx (by omega)

end Go.Proofs.YtbbcondoenmapacDoor.M
