/-
  Own text: the contract of the program's Open.
-/
import Derived.Test.YtpjhadaiodnnaaaChunk
import Derived.WalkSmall
import Derived.Deep.QuietTactic
import Derived.BigQuiet
namespace Go.Proofs.Ytpjhadaiodnnaaa.M
open Go.ChangeShapes Go.WideShapes Go.ChangeAt Go.RowKit

theorem Rd.drewN {k : IntKind} {w : World} {p : Option Addr} {n c : Nat} {xs : List Int} (h : Rd k w p n c xs) (i : Nat) : Rd k (w.drewN i) p n c xs :=
  h.below (below_drewN (Below.refl _ _) i)

theorem num_room {xs : List Int} (hb : By xs) (h : (numR xs).2.2 = 0) : 0 < (numR xs).2.1 ∧ (numR xs).2.1 ≤ xs.length ∧ (numR xs).2.1 ≤ 10 := by
  obtain ⟨m, hm, hn, rest, hx⟩ := numR_form hb h
  rw [hn, hx, List.length_append]
  exact ⟨putL_pos m, Nat.le_add_right _ _, putL_len hm⟩

theorem ret_open (p : Option Addr) (v c a : Nat) : Ending.returned (.tuple #[.slice p v c, .int .i64 ((a : Int) + (v : Int) + 4), .int .i64 0]) = .returned (.tuple #[.slice p v c, .int .i64 ((a + v + 4 : Nat) : Int), .int .i64 0]) := by
  rw [Int.natCast_add, Int.natCast_add]; rfl

set_option maxRecDepth 20000 in
set_option maxHeartbeats 600000 in
/-- Open, where it reads a count, and the sum is or is not as it should be. -/
theorem open_sum (b o n c : Nat) (xs : List Int) (w : World) (hr : Rd .u8 w (some ⟨b, o, none⟩) n c xs) (hx : By xs) (hn : n ≤ 1099511627776) (he : (numR xs).2.2 = 0) (hv : (numR xs).1 ≤ 8192) (hs : (numR xs).2.1 + (numR xs).1 + 4 ≤ n) :
    Calls Try.prog 89 #[.slice (some ⟨b, o, none⟩) n c] w fun e w' => Below w.heap.size w w' ∧
      ((get4 (xs.drop ((numR xs).2.1 + (numR xs).1)) ≠ sumN (xs.take ((numR xs).2.1 + (numR xs).1)) ∧ e = .returned (.tuple #[.slice none 0 0, .int .i64 0, .int .i64 11])) ∨
       (get4 (xs.drop ((numR xs).2.1 + (numR xs).1)) = sumN (xs.take ((numR xs).2.1 + (numR xs).1)) ∧ ∃ p' c', e = .returned (.tuple #[.slice p' (numR xs).1 c', .int .i64 ((numR xs).2.1 + (numR xs).1 + 4 : Nat), .int .i64 0]) ∧ Ow .u8 5 w' w.heap.size p' (numR xs).1 c' ((xs.drop (numR xs).2.1).take (numR xs).1))) := by
  have hq := chunk_ok b o n c xs 8192 w hr hx hn (by decide) he hv (by omega)
  have hcap := hr.cap
  have ht : Rd .u8 w (some ⟨b, o + ((numR xs).2.1 + (numR xs).1), none⟩) (n - ((numR xs).2.1 + (numR xs).1)) (c - ((numR xs).2.1 + (numR xs).1)) (xs.drop ((numR xs).2.1 + (numR xs).1)) := by
    have h := hr.sub ((numR xs).2.1 + (numR xs).1) (n - ((numR xs).2.1 + (numR xs).1)) (c - ((numR xs).2.1 + (numR xs).1)) (by omega) (by omega)
    rw [List.take_of_length_le (by rw [List.length_drop, hr.len]; exact Nat.le_refl _)] at h
    exact h
  have hh : Rd .u8 w (some ⟨b, o, none⟩) ((numR xs).2.1 + (numR xs).1) c (xs.take ((numR xs).2.1 + (numR xs).1)) := by
    have h := hr.sub 0 ((numR xs).2.1 + (numR xs).1) c (by omega) (by omega)
    simpa using h
  have ha := (num_room hx he).1
  have g1 := fun i => getSum_any _ _ _ _ _ _ (ht.drewN i) (hx.drop _) (by omega)
  have g2 := fun i => sum_any _ _ _ _ _ (hh.drewN i) (hx.take _) (by omega)
  generalize (numR xs).1 = v at hq hv hs ht hh g1 g2 ⊢
  generalize (numR xs).2.1 = a at hq hs ht hh ha g1 g2 ⊢
  generalize get4 (xs.drop (a + v)) = s1 at g1 ⊢
  generalize sumN (xs.take (a + v)) = s2 at g2 ⊢
  clear hr hx he ht hh
  go_enter Try.func89, Try.ntmps89
  go_wp2_with (go_at_call 94; refine hq.mono ?_; rintro e w1 ⟨p1, rfl, hd, hw⟩; subst hw)
  by_cases h : s1 = s2
  · have hne : ((s1 : Int) != (s2 : Int)) = false := by simp [h]
    have H : Hid (s1 = s2) := h
    clear h
    go_quiet ((first | (go_at_call 105; exact Calls.quiet_of_same (g1 _)) | (go_at_call 104; exact Calls.quiet_of_same (g2 _))))
    have ho := own_any _ _ _ _ _ (hd.drewN nq) (by omega)
    clear g1 g2
    go_wp2_with (go_at_call 90; refine ho.mono ?_; rintro e w2 ⟨p2, c2, rfl, ho2, hb2⟩)
    go_ret3
    exact ⟨(below_drewN (Below.refl _ _) nq).trans hb2, Or.inr ⟨H.out, p2, c2, ret_open _ _ _ _, ho2⟩⟩
  · have hne : ((s1 : Int) != (s2 : Int)) = true := by simp; omega
    have H : Hid (s1 ≠ s2) := h
    clear h
    go_quiet ((first | (go_at_call 105; exact Calls.quiet_of_same (g1 _)) | (go_at_call 104; exact Calls.quiet_of_same (g2 _))))
    clear g1 g2
    go_wp2_with fail
    go_ret3
    exact ⟨below_drewN (Below.refl _ _) nq, Or.inl ⟨H.out, rfl⟩⟩

set_option maxRecDepth 20000 in
theorem open_long (p : Option Addr) (n c : Nat) (xs : List Int) (w : World) (hr : Rd .u8 w p n c xs) (hx : By xs) (hn : n ≤ 1099511627776) (he : (numR xs).2.2 = 0) (hv : 8192 < (numR xs).1) :
    Calls Try.prog 89 #[.slice p n c] w fun e w' => e = .returned (.tuple #[.slice none 0 0, .int .i64 0, .int .i64 4]) ∧ w' = w := by
  have hq := chunk_long p n c xs 8192 w hr hx hn (by decide) he hv
  clear hr hx he hv
  go_enter Try.func89, Try.ntmps89
  go_wp2_with (go_at_call 94; refine hq.mono ?_; rintro e w1 ⟨rfl, hw⟩; subst hw)
  go_ret3
  exact ⟨rfl, rfl⟩

set_option maxRecDepth 20000 in
theorem open_short (p : Option Addr) (n c : Nat) (xs : List Int) (w : World) (hr : Rd .u8 w p n c xs) (hx : By xs) (hn : n ≤ 1099511627776) (he : (numR xs).2.2 = 0) (hv : (numR xs).1 ≤ 8192) (hs : n - (numR xs).2.1 < (numR xs).1) :
    Calls Try.prog 89 #[.slice p n c] w fun e w' => e = .returned (.tuple #[.slice none 0 0, .int .i64 0, .int .i64 2]) ∧ w' = w := by
  have hl := hr.len
  have ha := (num_room hx he).2.1
  have hq := chunk_short p n c xs 8192 w hr hx hn (by decide) he hv (by omega) hs
  clear hr hx he hv hs
  go_enter Try.func89, Try.ntmps89
  go_wp2_with (go_at_call 94; refine hq.mono ?_; rintro e w1 ⟨rfl, hw⟩; subst hw)
  go_ret3
  exact ⟨rfl, rfl⟩

set_option maxRecDepth 20000 in
theorem open_nosum (b o n c : Nat) (xs : List Int) (w : World) (hr : Rd .u8 w (some ⟨b, o, none⟩) n c xs) (hx : By xs) (hn : n ≤ 1099511627776) (he : (numR xs).2.2 = 0) (hv : (numR xs).1 ≤ 8192) (hs : (numR xs).2.1 + (numR xs).1 ≤ n) (h4 : n - ((numR xs).2.1 + (numR xs).1) < 4) :
    Calls Try.prog 89 #[.slice (some ⟨b, o, none⟩) n c] w fun e w' => e = .returned (.tuple #[.slice none 0 0, .int .i64 0, .int .i64 2]) ∧ w' = w := by
  have hq := chunk_ok b o n c xs 8192 w hr hx hn (by decide) he hv hs
  generalize (numR xs).1 = v at hq hv hs h4
  generalize (numR xs).2.1 = a at hq hs h4
  clear hr hx he
  go_enter Try.func89, Try.ntmps89
  go_wp2_with (go_at_call 94; refine hq.mono ?_; rintro e w1 ⟨p1, rfl, hd, hw⟩; subst hw)
  go_ret3
  exact ⟨rfl, rfl⟩

/-- Open, whole: it tells what the plain function tells. -/
theorem open_any (p : Option Addr) (n c : Nat) (xs : List Int) (w : World) (hr : Rd .u8 w p n c xs) (hx : By xs) (hn : n ≤ 1099511627776) :
    Calls Try.prog 89 #[.slice p n c] w fun e w' => ∃ p' c', e = .returned (.tuple #[.slice p' (openR xs).1.length c', .int .i64 (openR xs).2.1, .int .i64 (openR xs).2.2]) ∧ Ow .u8 5 w' w.heap.size p' (openR xs).1.length c' (openR xs).1 ∧ Below w.heap.size w w' := by
  have nothing : ∀ (e : Ending) (w' : World) (k : Nat), openR xs = ([], 0, k) → e = .returned (.tuple #[.slice none 0 0, .int .i64 0, .int .i64 k]) → Below w.heap.size w w' → ∃ p' c', e = .returned (.tuple #[.slice p' (openR xs).1.length c', .int .i64 (openR xs).2.1, .int .i64 (openR xs).2.2]) ∧ Ow .u8 5 w' w.heap.size p' (openR xs).1.length c' (openR xs).1 ∧ Below w.heap.size w w' := by
    intro e w' k h1 h2 h3
    rw [h1, h2]
    exact ⟨none, 0, rfl, Ow.empty _ _ _ _ _, h3⟩
  have hl := hr.len
  by_cases h1 : (numR xs).2.2 ≠ 0
  · refine (open_err p n c xs w hr hx hn h1).mono ?_
    rintro e w' ⟨he, hw⟩
    exact nothing e w' _ (by unfold openR; rw [if_pos h1]) he (by rw [hw]; exact Below.refl _ _)
  · have h1' := Classical.not_not.1 h1
    have hroom := num_room hx h1'
    by_cases h2 : 8192 < (numR xs).1
    · refine (open_long p n c xs w hr hx hn h1' h2).mono ?_
      rintro e w' ⟨he, hw⟩
      exact nothing e w' 4 (by unfold openR; rw [if_neg h1, if_pos h2]) he (by rw [hw]; exact Below.refl _ _)
    · by_cases h3 : xs.length - (numR xs).2.1 < (numR xs).1
      · refine (open_short p n c xs w hr hx hn h1' (by omega) (by omega)).mono ?_
        rintro e w' ⟨he, hw⟩
        exact nothing e w' 2 (by unfold openR; rw [if_neg h1, if_neg h2, if_pos h3]) he (by rw [hw]; exact Below.refl _ _)
      · obtain ⟨b, o, rfl, _⟩ := hr.cells (by omega)
        by_cases h4 : xs.length - ((numR xs).2.1 + (numR xs).1) < 4
        · refine (open_nosum b o n c xs w hr hx hn h1' (by omega) (by omega) (by omega)).mono ?_
          rintro e w' ⟨he, hw⟩
          exact nothing e w' 2 (by unfold openR; rw [if_neg h1, if_neg h2, if_neg h3, if_pos h4]) he (by rw [hw]; exact Below.refl _ _)
        · refine (open_sum b o n c xs w hr hx hn h1' (by omega) (by omega)).mono ?_
          rintro e w' ⟨hb, ⟨h5, he⟩ | ⟨h5, p', c', he, ho⟩⟩
          · exact nothing e w' 11 (by unfold openR; rw [if_neg h1, if_neg h2, if_neg h3, if_neg h4, if_pos h5]) he hb
          · have hd : ((xs.drop (numR xs).2.1).take (numR xs).1).length = (numR xs).1 := by rw [List.length_take, List.length_drop]; omega
            have hop : openR xs = ((xs.drop (numR xs).2.1).take (numR xs).1, (numR xs).2.1 + (numR xs).1 + 4, 0) := by
              unfold openR; rw [if_neg h1, if_neg h2, if_neg h3, if_neg h4, if_neg (by simpa using h5)]
            rw [hop]
            simp only [hd]
            exact ⟨p', c', he, ho, hb⟩

end Go.Proofs.Ytpjhadaiodnnaaa.M
