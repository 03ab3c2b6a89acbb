/-
  Own text: the program and the reference tell the same of places.
-/
import Derived.Test.YtmfmjoibofadlaaOFit
import Derived.Test.YtmfmjoibofadlaaORfit
namespace Go.Proofs.Ytmfmjoibofadlaa.M
open Go.ChangeShapes Go.WideShapes Go.ChangeAt Go.RowKit
set_option linter.unusedSimpArgs false

theorem bitN_nat {k : Nat} (h : k < 64) : bitN (k : Int) = 2 ^ k := by
  unfold bitN
  rw [if_pos (by omega), Int.toNat_natCast]

theorem bit_or {x k : Nat} (h : k < 64) (j : Nat) : (x ||| bitN (k : Int)).testBit j = (x.testBit j || decide (k = j)) := by
  rw [Nat.testBit_or, bitN_nat h, Nat.testBit_two_pow]

theorem musN_bit (L : List Lo) (j : Nat) : ∀ k, k ≤ 64 → (musN L k).testBit j = (decide (j < k) && (L.getD j .z0).ans)
  | 0, _ => by
    show (0 : Nat).testBit j = _
    rw [Nat.zero_testBit, decide_eq_false (by omega), Bool.false_and]
  | k + 1, hk => by
    unfold musN
    by_cases h : (L.getD k .z0).ans = true
    · rw [if_pos h, bit_or (by omega), musN_bit L j k (by omega)]
      by_cases e : k = j
      · subst e
        rw [h, decide_eq_true (show k < k + 1 by omega)]
        simp
      · rw [decide_eq_false e, Bool.or_false]
        by_cases e2 : j < k
        · rw [decide_eq_true e2, decide_eq_true (by omega)]
        · rw [decide_eq_false e2, decide_eq_false (by omega)]
    · rw [if_neg h, musN_bit L j k (by omega)]
      by_cases e : k = j
      · subst e
        rw [eq_false_of_ne_true h, Bool.and_false, Bool.and_false]
      · by_cases e2 : j < k
        · rw [decide_eq_true e2, decide_eq_true (by omega)]
        · rw [decide_eq_false e2, decide_eq_false (by omega)]

theorem ahN_bit (L : List Lo) (o : Lo) (j : Nat) : ∀ k, k ≤ 64 → (ahN L o k).testBit j = (decide (j < k) && ahd (L.getD j .z0) o)
  | 0, _ => by
    show (0 : Nat).testBit j = _
    rw [Nat.zero_testBit, decide_eq_false (by omega), Bool.false_and]
  | k + 1, hk => by
    unfold ahN
    by_cases h : ahd (L.getD k .z0) o = true
    · rw [if_pos h, bit_or (by omega), ahN_bit L o j k (by omega)]
      by_cases e : k = j
      · subst e
        rw [h, decide_eq_true (show k < k + 1 by omega)]
        simp
      · rw [decide_eq_false e, Bool.or_false]
        by_cases e2 : j < k
        · rw [decide_eq_true e2, decide_eq_true (by omega)]
        · rw [decide_eq_false e2, decide_eq_false (by omega)]
    · rw [if_neg h, ahN_bit L o j k (by omega)]
      by_cases e : k = j
      · subst e
        rw [eq_false_of_ne_true h, Bool.and_false, Bool.and_false]
      · by_cases e2 : j < k
        · rw [decide_eq_true e2, decide_eq_true (by omega)]
        · rw [decide_eq_false e2, decide_eq_false (by omega)]

theorem butN_bit {x y : Nat} (hy : y < 18446744073709551616) (j : Nat) : (butN x y).testBit j = (x.testBit j && (decide (j < 64) && !y.testBit j)) := by
  unfold butN
  rw [Nat.testBit_and]
  have h := Nat.testBit_two_pow_sub_succ (n := 64) (x := y) (by omega) j
  rw [show (2 : Nat) ^ 64 - (y + 1) = 18446744073709551615 - y by omega] at h
  rw [h]

/-- Nothing is in the first alone. -/
theorem butN_zero {x y : Nat} (hx : x < 18446744073709551616) (hy : y < 18446744073709551616) : ((((butN x y : Nat) : Int) == 0) = true) ↔ ∀ j, x.testBit j = true → y.testBit j = true := by
  rw [beq_iff_eq]
  constructor
  · intro h j hj
    have h0 : butN x y = 0 := by omega
    have h1 := butN_bit (x := x) hy j
    rw [h0, Nat.zero_testBit, hj, Bool.true_and] at h1
    have h64 : j < 64 := by
      rcases Nat.lt_or_ge j 64 with h | h
      · exact h
      · have : x.testBit j = false := Nat.testBit_lt_two_pow (Nat.lt_of_lt_of_le hx (Nat.pow_le_pow_right (n := 2) (by decide) h))
        rw [this] at hj; cases hj
    rw [decide_eq_true h64, Bool.true_and] at h1
    cases hy2 : y.testBit j with
    | true => rfl
    | false => rw [hy2] at h1; cases h1
  · intro h
    have h0 : butN x y = 0 := by
      apply Nat.eq_of_testBit_eq
      intro j
      rw [butN_bit hy, Nat.zero_testBit]
      cases hx2 : x.testBit j with
      | false => rfl
      | true => rw [h j hx2]; simp
    rw [h0]
    rfl

/-- Calls that may be: what they are. -/
theorem right_each {L : List Lo} (h : rightO L = 0) (k : Nat) (hk : k < L.length) : 1 ≤ (L.getD k .z0).b ∧ ((L.getD k .z0).e = 0 ∨ (L.getD k .z0).b < (L.getD k .z0).e) := by
  unfold rightO at h
  split at h
  · cases h
  · split at h
    · cases h
    · next h2 =>
      have h3 : (L.getD k .z0).no = false := by
        rw [List.any_eq_true] at h2
        rw [Bool.eq_false_iff]
        intro e
        refine h2 ⟨L.getD k .z0, ?_, e⟩
        rw [List.getD_eq_getElem?_getD, List.getElem?_eq_getElem hk]
        exact List.getElem_mem hk
      unfold Lo.no at h3
      simp only [Bool.or_eq_false_iff, Bool.and_eq_false_iff, decide_eq_false_iff_not, bne_eq_false_iff_eq] at h3
      omega

theorem ans_iff {o : Lo} (h : 1 ≤ o.b ∧ (o.e = 0 ∨ o.b < o.e)) : o.ans = decide (0 < o.e) := by
  unfold Lo.ans
  by_cases e : o.e = 0
  · rw [e]; rfl
  · rw [decide_eq_true (by omega)]
    simp [e]

theorem ahd_bfr {a b : Lo} (h : 1 ≤ a.b ∧ (a.e = 0 ∨ a.b < a.e)) : ahd a b = bfr a b := by
  unfold ahd bfr
  rw [ans_iff h]

theorem ahd_self {a : Lo} (h : 1 ≤ a.b ∧ (a.e = 0 ∨ a.b < a.e)) : bfr a a = false := by
  unfold bfr
  simp
  omega

/-- What is left is what is not done. -/
def Left (n : Nat) (xs : List Bool) (d : Nat) : Prop := xs.length = n ∧ ∀ k, k < n → xs.getD k false = !d.testBit k

theorem ahL_get (L : List Lo) {i : Nat} (h : i < L.length) : (ahL L).getD i 0 = (ahN L (L.getD i .z0) L.length : Int) := by
  unfold ahL
  rw [List.getD_eq_getElem?_getD, List.getElem?_map, List.getElem?_range h]
  rfl

theorem open_left {L : List Lo} (hR : rightO L = 0) {xs : List Bool} {d : Nat} (hd : d < 18446744073709551616) (hl : Left L.length xs d) {i : Nat} (hi : i < L.length) (v : ByteArray) :
    openB L.length L (ahL L) d v (i : Int) = (xs.getD i false && (nxA L xs i L.length L.length && ((L.getD i .z0).w || (L.getD i .z0).s.toList == v.toList))) := by
  have h24 := rightO_len hR
  unfold openB
  rw [decide_eq_false (show ¬ (i : Int) < 0 by omega), decide_eq_false (show ¬ (L.length : Int) ≤ (i : Int) by omega), Int.toNat_natCast, ahL_get L hi, Int.toNat_natCast]
  have e1 : hasN d (i : Int) = d.testBit i := by
    unfold hasN
    rw [decide_eq_true (by omega), Bool.true_and, Int.toNat_natCast]
  have e2 : (((butN (ahN L (L.getD i .z0) L.length) d : Nat) : Int) == 0) = nxA L xs i L.length L.length := by
    rw [Bool.eq_iff_iff, butN_zero (ahN_lt L _ _) hd, nxA_iff L xs i L.length L.length (Nat.le_refl _)]
    constructor
    · intro H k _ hk hx
      have h1 := H k (by rw [ahN_bit L _ k _ (by omega), decide_eq_true hk, Bool.true_and, ahd_bfr (right_each hR k hk)]; exact hx.2.2)
      rw [hl.2 k hk, h1] at hx
      exact absurd hx.1 (by decide)
    · intro H j hj
      rw [ahN_bit L _ j _ (by omega), Bool.and_eq_true, decide_eq_true_eq] at hj
      obtain ⟨hj1, hj2⟩ := hj
      rw [ahd_bfr (right_each hR j hj1)] at hj2
      cases hb : d.testBit j with
      | true => rfl
      | false =>
        refine absurd ⟨?_, ?_, hj2⟩ (H j (by omega) hj1)
        · rw [hl.2 j hj1, hb]; rfl
        · intro e
          subst e
          rw [ahd_self (right_each hR j hj1)] at hj2
          cases hj2
  rw [e1, e2, hl.2 i hi]
  simp

theorem left_step {n : Nat} {xs : List Bool} {d i : Nat} (h : Left n xs d) (hn : n ≤ 64) (hi : i < n) : Left n (xs.set i false) (d ||| bitN (i : Int)) := by
  refine ⟨by rw [List.length_set]; exact h.1, fun k hk => ?_⟩
  have h1 := h.2 k hk
  rw [bit_or (by omega), List.getD_eq_getElem?_getD, List.getElem?_set]
  by_cases e : i = k
  · subst e
    rw [if_pos rfl, if_pos (by rw [h.1]; exact hi)]
    simp
  · rw [if_neg e, decide_eq_false e, Bool.or_false, ← List.getD_eq_getElem?_getD, h1]

theorem over_left {L : List Lo} (hR : rightO L = 0) {xs : List Bool} {d : Nat} (hd : d < 18446744073709551616) (hl : Left L.length xs d) : overB (musN L L.length) d = rfE L xs L.length L.length := by
  have h24 := rightO_len hR
  unfold overB
  rw [Bool.eq_iff_iff, butN_zero (musN_lt L _) hd, rfE_iff L xs L.length L.length (Nat.le_refl _)]
  constructor
  · intro H k _ hk hx
    have h1 := H k (by rw [musN_bit L k _ (by omega), decide_eq_true hk, Bool.true_and, ans_iff (right_each hR k hk), decide_eq_true hx.2])
    rw [hl.2 k hk, h1] at hx
    exact absurd hx.1 (by decide)
  · intro H j hj
    rw [musN_bit L j _ (by omega), Bool.and_eq_true, decide_eq_true_eq] at hj
    obtain ⟨hj1, hj2⟩ := hj
    rw [ans_iff (right_each hR j hj1), decide_eq_true_eq] at hj2
    cases hb : d.testBit j with
    | true => rfl
    | false => exact absurd ⟨by rw [hl.2 j hj1, hb]; rfl, hj2⟩ (H j (by omega) hj1)

theorem fit_left {L : List Lo} (hR : rightO L = 0) : ∀ (row : List Int) (xs : List Bool) (d : Nat) (v : ByteArray), d < 18446744073709551616 → Left L.length xs d → fitG L row d v = rfG L L.length row xs v
  | [], xs, d, v, hd, hl => over_left hR hd hl
  | i :: row, xs, d, v, hd, hl => by
    have h24 := rightO_len hR
    unfold fitG rfG
    by_cases hi : i < 0 ∨ (L.length : Int) ≤ i
    · rw [if_pos hi]
      have : openB L.length L (ahL L) d v i = false := by
        unfold openB
        rcases hi with h | h
        · rw [decide_eq_true h]; rfl
        · rw [decide_eq_true h]; simp
      rw [this]
      rfl
    · rw [if_neg hi]
      obtain ⟨m, rfl⟩ : ∃ m : Nat, i = (m : Int) := ⟨i.toNat, by omega⟩
      have hm : m < L.length := by omega
      rw [open_left hR hd hl hm, Int.toNat_natCast]
      have hs := left_step hl (by omega) hm
      have hd2 : d ||| bitN (m : Int) < 18446744073709551616 := or_lt64 hd (bitN_lt _)
      cases hx : xs.getD m false with
      | false => rfl
      | true =>
        cases hn : nxA L xs m L.length L.length with
        | false => rfl
        | true =>
          rw [Bool.true_and, Bool.true_and, if_neg (show ¬ (true = false) by decide), if_neg (show ¬ (true = false) by decide)]
          cases hw : (L.getD m .z0).w with
          | true =>
            rw [Bool.true_or, if_pos rfl, if_pos rfl]
            exact fit_left hR row _ _ _ hd2 hs
          | false =>
            rw [Bool.false_or, if_neg (show ¬ (false = true) by decide)]
            cases hv : ((L.getD m .z0).s.toList == v.toList) with
            | false => rfl
            | true =>
              rw [if_pos rfl, if_pos rfl]
              have e : (L.getD m .z0).s = v := by
                rw [beq_iff_eq, ByteArray.toList_eq, ByteArray.toList_eq] at hv
                exact ByteArray.ext (Array.toList_inj.1 hv)
              rw [e]
              exact fit_left hR row _ _ _ hd2 hs

theorem fits_same (L : List Lo) (row : List Int) : fitsO L row = rfO L row := by
  unfold fitsO rfO
  by_cases h : rightO L = 0
  · rw [if_pos h, if_pos h]
    refine fit_left h row _ 0 _ (by decide) ⟨List.length_replicate .., fun k hk => ?_⟩
    rw [Nat.zero_testBit, List.getD_eq_getElem?_getD, List.getElem?_replicate, if_pos hk]
    rfl
  · rw [if_neg h, if_neg h]

end Go.Proofs.Ytmfmjoibofadlaa.M
