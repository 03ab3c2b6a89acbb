/-
  Own text: whether a base and records are short enough for a reel: the contract of fits.
-/
import Derived.Test.YtpjhadaiodnnaaaTFollow
namespace Go.Proofs.Ytpjhadaiodnnaaa.M
open Go.ChangeShapes Go.WideShapes Go.ChangeAt Go.RowKit

/-- Are all records short? -/
def shortV (recs : List (List Int)) : Bool := recs.all fun y => decide (y.length ≤ 8192)

theorem shortV_get {recs : List (List Int)} (h : shortV recs = true) : ∀ i, i < recs.length → (recs.getD i []).length ≤ 8192 := fun i hi => by
  unfold shortV at h
  rw [List.all_eq_true] at h
  rw [List.getD_eq_getElem?_getD, List.getElem?_eq_getElem hi]
  exact of_decide_eq_true (h _ (List.getElem_mem hi))

theorem shortV_no {recs : List (List Int)} {k : Nat} (hk : k < recs.length) (h : ¬ (recs.getD k []).length ≤ 8192) : shortV recs = false := by
  cases e : shortV recs with
  | false => rfl
  | true => exact absurd (shortV_get e k hk) h

theorem shortV_yes {recs : List (List Int)} (h : ∀ i, i < recs.length → (recs.getD i []).length ≤ 8192) : shortV recs = true := by
  unfold shortV
  rw [List.all_eq_true]
  intro y hy
  obtain ⟨i, hi, rfl⟩ := List.getElem_of_mem hy
  have := h i hi
  rw [List.getD_eq_getElem?_getD, List.getElem?_eq_getElem hi] at this
  exact decide_eq_true this

set_option maxRecDepth 20000 in
theorem long_any (q : Option Addr) (m d : Nat) (w : World) : Calls Try.prog 82 #[.slice q m d] w fun e w' => e = .returned (.bool (decide (8192 < m))) ∧ w' = w := by
  have hd : decide ((8192 : Int) < (m : Int)) = decide (8192 < m) := by
    by_cases h : 8192 < m
    · rw [decide_eq_true h, decide_eq_true (by omega)]
    · rw [decide_eq_false h, decide_eq_false (by omega)]
  go_enter Try.func82, Try.ntmps82
  go_wp2_with fail
  go_ret
  exact ⟨by simp, rfl⟩

set_option maxRecDepth 20000 in
set_option maxHeartbeats 2000000 in
theorem index_any (pr : Option Addr) (nr cr : Nat) (vs : List Value) (recs : List (List Int)) (w : World) (hv : RdV w pr nr cr vs) (hs : Sls w vs recs) (hnr : nr = recs.length) (hfew : nr ≤ 1000000) :
    Calls Try.prog 100 #[.slice pr nr cr, .func (.func 82) #[] #[]] w fun e w' => (∃ z : Int, e = .returned (.int .i64 z) ∧ decide (0 ≤ z) = !shortV recs) ∧ Below w.heap.size w w' := by
  have HN : Hid (nr = recs.length) := hnr
  clear hnr
  go_enter Try.func100, Try.ntmps100
  go_wp2_with fail
  go_loopw [8] (fun ix wr => ∃ k : Nat, k ≤ nr ∧ ix = .int .i64 k ∧ Hid (∀ i, i < k → (recs.getD i []).length ≤ 8192) ∧ wr = w) (fun ix _ => nr - (intOf ix).toNat)
  case atStart => exact ⟨0, Nat.zero_le _, rfl, fun _ h => absurd h (Nat.not_lt_zero _), rfl⟩
  case round =>
    obtain ⟨k, hk, rfl, HA, rfl⟩ := hrel
    by_cases hkn : k < nr
    · have hki : (k : Int) < (nr : Int) := by omega
      obtain ⟨bv, ov, hpe, hcv⟩ := hv.cells (by omega)
      subst hpe
      have hck := hcv k hkn
      obtain ⟨q0, m0, e0, hq0, hr0⟩ := hs.2 k (by rw [hv.len]; exact hkn)
      rw [hq0] at hck
      have hL := long_any q0 m0 e0 wr
      have hl0 := hr0.len
      clear hcv
      by_cases hm : 8192 < m0
      · rw [decide_eq_true hm] at hL
        have HB : Hid (shortV recs = false) := shortV_no (k := k) (by rw [← HN.out]; exact hkn) (by omega)
        go_wp2_with fail
        refine hL.mono ?_
        rintro e w1 ⟨rfl, hw⟩
        subst hw
        go_wp2_with fail
        go_ret
        refine ⟨⟨k, rfl, ?_⟩, Below.refl _ _⟩
        rw [HB.out, decide_eq_true (by omega)]
        rfl
      · rw [decide_eq_false hm] at hL
        have HA2 : Hid (∀ i, i < k + 1 → (recs.getD i []).length ≤ 8192) := fun i hi => by
          rcases Nat.lt_or_ge i k with h | h
          · exact HA.out i h
          · obtain rfl : i = k := by omega
            omega
        clear hl0 hr0 hq0
        go_wp2_with fail
        refine hL.mono ?_
        rintro e w1 ⟨rfl, hw⟩
        subst hw
        go_wp2_with fail
        go_roundw
        case rel => exact ⟨k + 1, by omega, by go_num, HA2, trivial⟩
        case measure => simp [intOf]; omega
    · have hki : ¬ (k : Int) < (nr : Int) := by omega
      have HB : Hid (shortV recs = true) := shortV_yes fun i hi => HA.out i (by rw [← HN.out] at hi; omega)
      go_wp2_with fail
      go_ret
      refine ⟨⟨-1, rfl, ?_⟩, Below.refl _ _⟩
      rw [HB.out]
      rfl

set_option maxRecDepth 20000 in
theorem contains_any (pr : Option Addr) (nr cr : Nat) (vs : List Value) (recs : List (List Int)) (w : World) (hv : RdV w pr nr cr vs) (hs : Sls w vs recs) (hnr : nr = recs.length) (hfew : nr ≤ 1000000) :
    Calls Try.prog 83 #[.slice pr nr cr, .func (.func 82) #[] #[]] w fun e w' => e = .returned (.bool (!shortV recs)) ∧ Below w.heap.size w w' := by
  have hI := index_any pr nr cr vs recs w hv hs hnr hfew
  clear hv hs hnr
  go_enter Try.func83, Try.ntmps83
  go_wp2_with fail
  refine hI.mono ?_
  rintro e w1 ⟨⟨z, rfl, hz⟩, hb⟩
  go_wp2_with fail
  go_ret
  exact ⟨by simp, hb⟩

/-- Does a reel have room for these? -/
def fitsR (nb : Nat) (recs : List (List Int)) : Bool := decide (nb ≤ 8176) && shortV recs

set_option maxRecDepth 20000 in
theorem fits_any (pb : Option Addr) (nb cb : Nat) (pr : Option Addr) (nr cr : Nat) (vs : List Value) (recs : List (List Int)) (w : World) (hv : RdV w pr nr cr vs) (hs : Sls w vs recs) (hnr : nr = recs.length) (hfew : nr ≤ 1000000) :
    Calls Try.prog 55 #[.slice pb nb cb, .slice pr nr cr] w fun e w' => e = .returned (.bool (fitsR nb recs)) ∧ Below w.heap.size w w' := by
  have hC := contains_any pr nr cr vs recs w hv hs hnr hfew
  clear hv hs hnr
  by_cases hn : nb ≤ 8176
  · have hd : decide ((nb : Int) ≤ 8176) = true := decide_eq_true (by omega)
    have HF : Hid (fitsR nb recs = shortV recs) := by show _ = _; unfold fitsR; rw [decide_eq_true hn, Bool.true_and]
    clear hn
    go_enter Try.func55, Try.ntmps55
    go_wp2_with fail
    refine hC.mono ?_
    rintro e w1 ⟨rfl, hb⟩
    go_wp2_with fail
    go_ret
    exact ⟨by rw [HF.out]; simp, hb⟩
  · have hd : decide ((nb : Int) ≤ 8176) = false := decide_eq_false (by omega)
    have HF : Hid (fitsR nb recs = false) := by show _ = _; unfold fitsR; rw [decide_eq_false hn, Bool.false_and]
    clear hn
    go_enter Try.func55, Try.ntmps55
    go_wp2_with fail
    go_ret
    exact ⟨by rw [HF.out]; rfl, Below.refl _ _⟩

end Go.Proofs.Ytpjhadaiodnnaaa.M
