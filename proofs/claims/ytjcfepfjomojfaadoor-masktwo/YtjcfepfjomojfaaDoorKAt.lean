/-
  Own text: how many bits stand below a place, and which bit has so many below it; contracts of mask's Has, Without, Rank, At.
-/
import Derived.Test.YtjcfepfjomojfaaDoorKPop
namespace Go.Proofs.YtjcfepfjomojfaaDoor.M
open Go.ChangeShapes Go.WideShapes Go.ChangeAt Go.RowKit

theorem cnt_le_of {p : Nat → Bool} {m n : Nat} (h : m ≤ n) : cnt p m ≤ cnt p n := by
  obtain ⟨k, rfl⟩ := Nat.exists_eq_add_of_le h
  rw [cnt_add]
  omega

theorem cnt_at {p : Nat → Bool} {m n : Nat} (h : m < n) (hm : p m = true) : cnt p m < cnt p n := by
  have h1 : cnt p (m + 1) ≤ cnt p n := cnt_le_of h
  have h2 : cnt p (m + 1) = cnt p m + 1 := by show cnt p m + (p m).toNat = _; rw [hm]; rfl
  omega

theorem cnt_uniq {p : Nat → Bool} {m n : Nat} (hm : p m = true) (hn : p n = true) (h : cnt p m = cnt p n) : m = n := by
  rcases Nat.lt_trichotomy m n with h1 | h1 | h1
  · have := cnt_at h1 hm; omega
  · exact h1
  · have := cnt_at h1 hn; omega

theorem cnt_find {p : Nat → Bool} {k : Nat} : ∀ n, k < cnt p n → ∃ j, j < n ∧ p j = true ∧ cnt p j = k
  | 0, h => absurd h (Nat.not_lt_zero _)
  | n + 1, h => by
    by_cases h1 : k < cnt p n
    · obtain ⟨j, hj, hp, hc⟩ := cnt_find n h1
      exact ⟨j, by omega, hp, hc⟩
    · simp only [cnt] at h
      cases hp : p n with
      | false => rw [hp] at h; simp at h; omega
      | true => rw [hp] at h; simp at h; exact ⟨n, by omega, hp, by omega⟩

/-- A word's bits as a question. -/
def bt (x : Nat) : Nat → Bool := fun i => x.testBit i

/-- How many bits stand below a place. -/
def rk (x n : Nat) : Nat := cnt (bt x) n

theorem pop_rk (x : Nat) : pop x = rk x 64 := rfl

theorem tz_spec {x : Nat} (h0 : 0 < x) (h : x < 18446744073709551616) : x.testBit (tz x) = true ∧ ∀ j, j < tz x → x.testBit j = false := by
  obtain ⟨m, hm, hk⟩ := Lib.ctzFrom_spec 64 x h0 h
  have e : tz x = Lib.ctzFrom 64 x := by unfold tz Lib.ctz; rw [if_neg (by omega)]
  rw [← e] at hm
  generalize tz x = t at hm ⊢
  subst hm
  constructor
  · rw [Nat.testBit_two_pow_mul, Nat.sub_self, Nat.testBit_zero]
    simp
  · intro j hj
    rw [Nat.testBit_two_pow_mul]
    have : decide (j ≥ t) = false := decide_eq_false (by omega)
    rw [this]
    rfl

theorem without_bit {x k : Nat} (hk : k < 64) (j : Nat) (hj : j < 64) : (x &&& (18446744073709551615 - 2 ^ k)).testBit j = (x.testBit j && decide (j ≠ k)) := by
  have hp : 2 ^ k < 2 ^ 64 := Nat.pow_lt_pow_right (by decide) hk
  rw [Nat.testBit_and, show 18446744073709551615 - 2 ^ k = 2 ^ 64 - (2 ^ k + 1) by omega, Nat.testBit_two_pow_sub_succ hp, decide_eq_true hj, Nat.testBit_two_pow]
  congr 1
  by_cases h : k = j
  · subst h; simp
  · simp [h]; omega

theorem bitN_nat {k : Nat} (hk : k < 64) : bitN (k : Int) = 2 ^ k := by
  unfold bitN
  rw [if_pos (by omega), Int.toNat_natCast]

set_option maxRecDepth 20000 in
theorem without_any (x : Nat) (n : Int) (w : World) (hx : x < 18446744073709551616) : Calls Tryd.prog 37 #[.int .u64 x, .int .i64 n] w fun e w' => e = .returned (.int .u64 ((x &&& (18446744073709551615 - bitN n) : Nat) : Int)) ∧ w' = w := by
  have hB := bit_any n w
  have hb := u64_andNot_nat x (bitN n) hx (bitN_lt n)
  generalize bitN n = z at hB hb ⊢
  go_enter Tryd.func37, Tryd.ntmps37
  go_wp2_with fail
  refine hB.mono ?_
  rintro e w1 ⟨rfl, hw⟩
  subst hw
  go_wp2_with fail
  go_ret
  exact ⟨rfl, rfl⟩

/-- Whether a number is in a set. -/
def hasN (x : Nat) (n : Int) : Bool := decide (0 ≤ n ∧ n < 64) && x.testBit n.toNat

theorem has_eq (x : Nat) (n : Int) : (((x &&& bitN n : Nat) : Int) != 0) = hasN x n := by
  unfold bitN hasN
  by_cases h : 0 ≤ n ∧ n < 64
  · rw [if_pos h, decide_eq_true h]
    have e : x &&& 2 ^ n.toNat = if x.testBit n.toNat then 2 ^ n.toNat else 0 := by
      apply Nat.eq_of_testBit_eq
      intro i
      rw [Nat.testBit_and, Nat.testBit_two_pow]
      by_cases hi : n.toNat = i
      · rw [hi]
        cases x.testBit i <;> simp
      · cases x.testBit n.toNat <;> simp [hi]
    rw [e]
    cases x.testBit n.toNat with
    | false => simp
    | true =>
      have h0 : 0 < 2 ^ n.toNat := Nat.pow_pos (by decide)
      rw [if_pos rfl]
      generalize 2 ^ n.toNat = z at h0 ⊢
      simp
      omega
  · rw [if_neg h, decide_eq_false h]
    simp

theorem ones_great_bits (n : Nat) : IntKind.u64.wrap (IntKind.u64.wrap (2 ^ min n 64) - 1) = ((2 ^ min n 64 - 1 : Nat) : Int) := ones_bits (min n 64) (Nat.min_le_right _ _)

theorem shl_one_any (n : Nat) : Op.shift .shl .u64 1 .i64 (n : Int) = pure (.int .u64 (IntKind.u64.wrap (2 ^ min n 64))) := by
  rw [shift_shl_any .u64 .i64 1 n (by omega), Int.toNat_natCast, Int.one_mul]
  rfl

set_option maxRecDepth 20000 in
theorem ones_all (n : Nat) (w : World) : Calls Tryd.prog 31 #[.int .i64 n] w fun e w' => e = .returned (.int .u64 ((2 ^ min n 64 - 1 : Nat) : Int)) ∧ w' = w := by
  have ho := ones_great_bits n
  have hs := shl_one_any n
  generalize 2 ^ min n 64 - 1 = z at ho ⊢
  generalize IntKind.u64.wrap (2 ^ min n 64) = y at ho hs
  go_enter Tryd.func31, Tryd.ntmps31
  go_wp2
  go_ret
  exact ⟨ret_int (by first | rfl | exact ho | simp), rfl⟩

theorem cnt_false : ∀ n, cnt (fun _ => false) n = 0
  | 0 => rfl
  | n + 1 => by show cnt (fun _ => false) n + 0 = 0; rw [cnt_false n]

theorem pop_mod (x : Nat) {m : Nat} (h : m ≤ 64) : pop (x % 2 ^ m) = rk x m := by
  unfold pop rk
  obtain ⟨k, hk⟩ := Nat.exists_eq_add_of_le h
  rw [hk, cnt_add]
  have e1 : cnt (fun i => (x % 2 ^ m).testBit i) m = cnt (bt x) m := by
    apply cnt_congr
    intro i hi
    rw [Nat.testBit_mod_two_pow, decide_eq_true hi]
    rfl
  have e2 : cnt (fun i => (x % 2 ^ m).testBit (m + i)) k = cnt (fun _ => false) k := by
    apply cnt_congr
    intro i _
    rw [Nat.testBit_mod_two_pow, decide_eq_false (by omega)]
    rfl
  rw [e1, e2, cnt_false]
  rfl

/-- How many numbers of a set are below any number. -/
def rankN (x : Nat) (n : Int) : Nat := rk x (min n.toNat 64)

theorem rankN_le (x : Nat) (n : Int) : rankN x n ≤ 64 := Nat.le_trans (cnt_le _ _) (Nat.min_le_right _ _)

set_option maxRecDepth 20000 in
theorem rank_any (x : Nat) (n : Int) (w : World) (hx : x < 18446744073709551616) (hn : n ≤ 9223372036854775807) : Calls Tryd.prog 27 #[.int .u64 x, .int .i64 n] w fun e w' => e = .returned (.int .i64 (rankN x n)) ∧ w' = w := by
  have hlt : 2 ^ min n.toNat 64 - 1 < 18446744073709551616 := by
    have h1 : 2 ^ min n.toNat 64 ≤ 2 ^ 64 := Nat.pow_le_pow_right (by decide) (Nat.min_le_right _ _)
    have h2 : 0 < 2 ^ min n.toNat 64 := Nat.pow_pos (by decide)
    omega
  have c1 := ones_all n.toNat w
  have ha := u64_and_nat x (2 ^ min n.toNat 64 - 1) hx hlt
  have c2 := len_any (x &&& (2 ^ min n.toNat 64 - 1)) w (and_lt64 hx)
  have e : pop (x &&& (2 ^ min n.toNat 64 - 1)) = rankN x n := by
    rw [Nat.and_two_pow_sub_one_eq_mod, pop_mod x (Nat.min_le_right _ _)]
    rfl
  rw [e] at c2
  clear e
  generalize rankN x n = r at c2 ⊢
  generalize x &&& (2 ^ min n.toNat 64 - 1) = y at ha c2
  generalize 2 ^ min n.toNat 64 - 1 = z at ha c1 hlt
  by_cases h0 : 0 ≤ n
  · obtain ⟨k, rfl⟩ := Int.eq_ofNat_of_zero_le h0
    rw [Int.toNat_natCast] at c1
    go_enter Tryd.func27, Tryd.ntmps27
    go_wp2_with fail
    refine c1.mono ?_
    rintro e w1 ⟨rfl, hw⟩
    subst hw
    go_wp2_with fail
    refine c2.mono ?_
    rintro e w1 ⟨rfl, hw⟩
    subst hw
    go_wp2_with fail
    go_ret
    exact ⟨rfl, rfl⟩
  · have hz : n.toNat = 0 := by omega
    rw [hz] at c1
    go_enter Tryd.func27, Tryd.ntmps27
    go_wp2_with fail
    refine c1.mono ?_
    rintro e w1 ⟨rfl, hw⟩
    subst hw
    go_wp2_with fail
    refine c2.mono ?_
    rintro e w1 ⟨rfl, hw⟩
    subst hw
    go_wp2_with fail
    go_ret
    exact ⟨rfl, rfl⟩

/-- What is left of a word without its k lowest bits. -/
def Rest (x k s : Nat) : Prop := s < 18446744073709551616 ∧ ∀ j, j < 64 → s.testBit j = (x.testBit j && decide (k ≤ rk x j))

theorem Rest.zero {x : Nat} (hx : x < 18446744073709551616) : Rest x 0 x := ⟨hx, fun j _ => by simp⟩

theorem Rest.low {x k s : Nat} (h : Rest x k s) (hk : k < pop x) : 0 < s ∧ tz s < 64 ∧ x.testBit (tz s) = true ∧ rk x (tz s) = k := by
  obtain ⟨j, hj, hp, hc⟩ := cnt_find (p := bt x) 64 hk
  have hs := h.2 j hj
  have hp' : x.testBit j = true := hp
  have hc' : rk x j = k := hc
  rw [hp', hc', decide_eq_true (Nat.le_refl _)] at hs
  have h0 : 0 < s := by
    rcases Nat.eq_zero_or_pos s with h1 | h1
    · subst h1; simp at hs
    · exact h1
  obtain ⟨t1, t2⟩ := tz_spec h0 h.1
  have t3 := tz_lt h0 h.1
  have h2 := h.2 _ t3
  rw [t1] at h2
  have h3 := (Bool.and_eq_true _ _).mp h2.symm
  have hle : k ≤ rk x (tz s) := of_decide_eq_true h3.2
  refine ⟨h0, t3, h3.1, ?_⟩
  have hjt : tz s ≤ j := by
    rcases Nat.lt_or_ge j (tz s) with h4 | h4
    · rw [t2 j h4] at hs; simp at hs
    · exact h4
  have : rk x (tz s) ≤ rk x j := cnt_le_of hjt
  omega

theorem Rest.next {x k s : Nat} (h : Rest x k s) (hk : k < pop x) : Rest x (k + 1) (s &&& (18446744073709551615 - bitN (tz s : Int))) := by
  obtain ⟨h0, h1, h2, h3⟩ := h.low hk
  refine ⟨and_lt64 h.1, fun j hj => ?_⟩
  rw [bitN_nat h1, without_bit h1 j hj, h.2 j hj]
  cases hb : x.testBit j with
  | false => rfl
  | true =>
    simp only [Bool.true_and]
    by_cases hjt : j = tz s
    · subst hjt
      rw [h3]
      simp
    · have : rk x j ≠ k := fun e => hjt (cnt_uniq (p := bt x) hb h2 (by show rk x j = rk x (tz s); omega))
      rw [decide_eq_true hjt, Bool.and_true, decide_eq_decide]
      omega

set_option maxRecDepth 20000 in
theorem at_any (x i : Nat) (w : World) (hx : x < 18446744073709551616) (hi : i < pop x) (ht : Tab w) :
    Calls Tryd.prog 26 #[.int .u64 x, .int .i64 i] w fun e w' => ∃ n : Nat, e = .returned (.int .i64 n) ∧ n < 64 ∧ x.testBit n = true ∧ rk x n = i ∧ w' = w := by
  have c1 := len_any x w hx
  have hp := pop_le x
  have cL : ∀ s : Nat, 0 < s → s < 18446744073709551616 → Calls Tryd.prog 24 #[.int .u64 s] w fun e w' => e = .returned (.int .i64 (tz s)) ∧ w' = w := fun s h0 h => low_any s w h0 h ht
  have cW := fun (s : Nat) (n : Int) (h : s < 18446744073709551616) => without_any s n w h
  clear ht
  generalize hpx : pop x = px at c1 hp hi
  have HP : Hid (pop x = px) := hpx
  clear hpx
  have hd1 : decide ((i : Int) < 0) = false := decide_eq_false (by omega)
  have hd2 : decide (px ≤ i) = false := decide_eq_false (by omega)
  have hd3 : decide ((px : Int) ≤ (i : Int)) = false := decide_eq_false (by omega)
  go_enter Tryd.func26, Tryd.ntmps26
  go_wp2_with fail
  refine c1.mono ?_
  rintro e w1 ⟨rfl, hw⟩
  subst hw
  go_wp2_with fail
  go_loop [0, 14] (fun v q => ∃ k s : Nat, k ≤ i ∧ q = .int .i64 k ∧ v = .int .u64 s ∧ Rest x k s) (fun _ q => i - (intOf q).toNat)
  case atStart => exact ⟨0, x, Nat.zero_le _, rfl, rfl, Rest.zero hx⟩
  case round =>
    obtain ⟨k, s, hk, rfl, rfl, hR⟩ := hrel
    have hkx : k < pop x := by rw [HP.out]; omega
    obtain ⟨l1, l2, l3, l4⟩ := hR.low hkx
    have c2 := cL s l1 hR.1
    have c3 := cW s (tz s : Int) hR.1
    have hN := hR.next hkx
    clear cL cW hR hkx c1
    generalize s &&& (18446744073709551615 - bitN (tz s : Int)) = s2 at c3 hN
    generalize tz s = t at c2 c3 l2 l3 l4
    have L4 : Hid (rk x t = k) := l4
    have L3 : Hid (x.testBit t = true) := l3
    clear l3 l4
    by_cases hki : k < i
    · go_wp2_with fail
      refine c2.mono ?_
      rintro e w2 ⟨rfl, hw⟩
      subst hw
      go_wp2_with fail
      refine c3.mono ?_
      rintro e w2 ⟨rfl, hw⟩
      subst hw
      go_wp2_with fail
      go_round
      case rel => exact ⟨k + 1, s2, by omega, by go_num, rfl, hN⟩
      case measure => simp [intOf]; omega
    · obtain rfl : k = i := by omega
      go_wp2_with fail
      refine c2.mono ?_
      rintro e w2 ⟨rfl, hw⟩
      subst hw
      go_wp2_with fail
      go_ret
      exact ⟨t, rfl, l2, L3.out, L4.out, rfl⟩

set_option maxRecDepth 20000 in
theorem at_none (x : Nat) (i : Int) (w : World) (hx : x < 18446744073709551616) (hi : i < 0 ∨ (pop x : Int) ≤ i) :
    Calls Tryd.prog 26 #[.int .u64 x, .int .i64 i] w fun e w' => e = .returned (.int .i64 (-1)) ∧ w' = w := by
  have c1 := len_any x w hx
  have hp := pop_le x
  generalize pop x = px at c1 hp hi
  by_cases h0 : i < 0
  · clear hi
    go_enter Tryd.func26, Tryd.ntmps26
    go_wp2_with fail
    go_ret
    exact ⟨rfl, rfl⟩
  · have h1 : (px : Int) ≤ i := by omega
    clear hi
    go_enter Tryd.func26, Tryd.ntmps26
    go_wp2_with fail
    refine c1.mono ?_
    rintro e w1 ⟨rfl, hw⟩
    subst hw
    go_wp2_with fail
    go_ret
    exact ⟨rfl, rfl⟩

end Go.Proofs.YtjcfepfjomojfaaDoor.M
