/-
  Own text: reading numbers of at most 2^40 one behind the other: contracts of Within, End and of ledger's Get.
-/
import Derived.Test.YtcnkpgbmegppbaaJCmd
import Derived.Test.YtcnkpgbmegppbaaYSort
namespace Go.Proofs.Ytcnkpgbmegppbaa.M
open Go.ChangeShapes Go.WideShapes Go.ChangeAt Go.RowKit

/-- A reader behind a number of at most 2^40: its number, and what it is then. -/
def wR (s : List Int × Nat) : Int × (List Int × Nat) :=
  if s.2 = 0 then (if (numR s.1).2.2 = 0 then (if (numR s.1).1 ≤ 1099511627776 then (((numR s.1).1 : Int), (s.1.drop (numR s.1).2.1, 0)) else (0, (s.1, 5))) else (0, (s.1, (numR s.1).2.2))) else (0, s)

theorem numG_bad : ∀ (xs : List Int) (i acc : Nat), (numG i acc xs).2.2 ≠ 0 → (numG i acc xs).1 = 0 := by
  intro xs
  induction xs with
  | nil => intro i acc _; rfl
  | cons x l ih =>
    intro i acc
    unfold numG
    split
    · intro _; rfl
    · split
      · intro _; rfl
      · split
        · intro h; exact absurd rfl h
        · exact ih _ _

theorem numR_bad {xs : List Int} (h : (numR xs).2.2 ≠ 0) : (numR xs).1 = 0 := numG_bad xs 0 0 h

/-- A reader in block g that has this to read, and that error. -/
def RdS (w : World) (g : Nat) (s : List Int × Nat) : Prop := ∃ p n c, Rdr w g p n c s.1 s.2

theorem Ex.of_grown {w w' : World} {g : Nat} (h : w.grownBy w' (some g)) : Ex g w w' := ⟨h.os, h.tape, h.output, h.size, fun k hk hne => h.block k hk (fun e => hne (Option.some.inj e))⟩

set_option maxRecDepth 20000 in
set_option maxHeartbeats 2000000 in
theorem within_any (g : Nat) (s : List Int × Nat) (w : World) (h : RdS w g s) :
    Calls Try.prog 37 #[.pointer (some ⟨g, 0, none⟩), .int .i64 0, .int .i64 1099511627776] w fun e w' => e = .returned (.int .i64 (wR s).1) ∧ RdS w' g (wR s).2 ∧ Ex g w w' := by
  obtain ⟨p, n, c, h⟩ := h
  obtain ⟨xs, err⟩ := s
  dsimp only at h
  have hE := err_any g p n c xs err w h
  by_cases h0 : err = 0
  · subst h0
    have hN := number_any p n c xs w h.rd h.byt h.room
    have h1 := h.rest
    by_cases he : (numR xs).2.2 = 0
    · have hroom := num_room h.byt he
      have hl := h.rd.len
      obtain ⟨b, o, rfl, _⟩ := h.rd.cells (by omega)
      obtain ⟨m, hm64, hme, _⟩ := numR_form h.byt he
      have hv : (numR xs).1 < 18446744073709551616 := by rw [hme]; exact hm64
      rw [he] at hN
      by_cases hle : (numR xs).1 ≤ 1099511627776
      · have HW : Hid (wR (xs, 0) = (((numR xs).1 : Int), (xs.drop (numR xs).2.1, 0))) := by unfold Hid wR; dsimp only; rw [if_pos rfl, if_pos he, if_pos hle]
        have hS := step_ok g b o n c xs 0 (numR xs).2.1 w h (by omega) (by omega)
        rw [HW.out]
        generalize (numR xs).1 = v at *
        generalize (numR xs).2.1 = a at *
        have hc1 : IntKind.i64.wrap (v : Int) = (v : Int) := by rw [IntKind.wrap_i64]; omega
        have d1 : decide ((4611686018427387904 : Int) < (v : Int)) = false := decide_eq_false (by omega)
        have d2 : decide ((v : Int) < 0) = false := decide_eq_false (by omega)
        have d3 : decide ((1099511627776 : Int) < (v : Int)) = false := decide_eq_false (by omega)
        clear h he hroom hl hme HW hv hle
        go_enter Try.func37, Try.ntmps37
        go_wp2_with fail
        refine hE.mono ?_
        rintro e w1 ⟨rfl, hw⟩
        subst hw
        go_wp2_with fail
        refine hN.mono ?_
        rintro e w1 ⟨rfl, hw⟩
        subst hw
        go_wp2_with fail
        refine hS.mono ?_
        rintro e w2 ⟨rfl, ⟨p', c', hR⟩, hg⟩
        go_wp2_with fail
        go_ret
        exact ⟨rfl, ⟨p', _, c', hR⟩, Ex.of_grown hg⟩
      · have HW : Hid (wR (xs, 0) = (0, (xs, 5))) := by unfold Hid wR; dsimp only; rw [if_pos rfl, if_pos he, if_neg hle]
        have hS := step_err g (some ⟨b, o, none⟩) n c xs 0 (numR xs).2.1 5 w h (by decide)
        rw [HW.out]
        generalize (numR xs).1 = v at *
        generalize (numR xs).2.1 = a at *
        clear h he hroom hl hme HW
        by_cases hbig : 4611686018427387904 < v
        · have d1 : decide ((4611686018427387904 : Int) < (v : Int)) = true := decide_eq_true (by omega)
          clear hle hv hbig
          go_enter Try.func37, Try.ntmps37
          go_wp2_with fail
          refine hE.mono ?_
          rintro e w1 ⟨rfl, hw⟩
          subst hw
          go_wp2_with fail
          refine hN.mono ?_
          rintro e w1 ⟨rfl, hw⟩
          subst hw
          go_wp2_with fail
          refine hS.mono ?_
          rintro e w2 ⟨rfl, hR, hg⟩
          go_wp2_with fail
          go_ret
          exact ⟨rfl, ⟨_, _, _, hR⟩, Ex.of_grown hg⟩
        · have hc1 : IntKind.i64.wrap (v : Int) = (v : Int) := by rw [IntKind.wrap_i64]; omega
          have d1 : decide ((4611686018427387904 : Int) < (v : Int)) = false := decide_eq_false (by omega)
          have d2 : decide ((v : Int) < 0) = false := decide_eq_false (by omega)
          have d3 : decide ((1099511627776 : Int) < (v : Int)) = true := decide_eq_true (by omega)
          clear hle hv hbig
          go_enter Try.func37, Try.ntmps37
          go_wp2_with fail
          refine hE.mono ?_
          rintro e w1 ⟨rfl, hw⟩
          subst hw
          go_wp2_with fail
          refine hN.mono ?_
          rintro e w1 ⟨rfl, hw⟩
          subst hw
          go_wp2_with fail
          refine hS.mono ?_
          rintro e w2 ⟨rfl, hR, hg⟩
          go_wp2_with fail
          go_ret
          exact ⟨rfl, ⟨_, _, _, hR⟩, Ex.of_grown hg⟩
    · have HW : Hid (wR (xs, 0) = (0, (xs, (numR xs).2.2))) := by unfold Hid wR; dsimp only; rw [if_pos rfl, if_neg he]
      have hS := step_err g p n c xs 0 (numR xs).2.1 (numR xs).2.2 w h (by omega)
      rw [numR_bad he] at hN
      rw [HW.out]
      generalize (numR xs).2.1 = a at *
      generalize (numR xs).2.2 = d at *
      have hd0 : ((d : Int) == 0) = false := by rw [beq_eq_false_iff_ne]; omega
      clear h he HW
      go_enter Try.func37, Try.ntmps37
      go_wp2_with fail
      refine hE.mono ?_
      rintro e w1 ⟨rfl, hw⟩
      subst hw
      go_wp2_with fail
      refine hN.mono ?_
      rintro e w1 ⟨rfl, hw⟩
      subst hw
      go_wp2_with fail
      refine hS.mono ?_
      rintro e w2 ⟨rfl, hR, hg⟩
      go_wp2_with fail
      go_ret
      exact ⟨rfl, ⟨_, _, _, hR⟩, Ex.of_grown hg⟩
  · have HW : Hid (wR (xs, err) = (0, (xs, err))) := by unfold Hid wR; dsimp only; rw [if_neg h0]
    have hd0 : ((err : Int) != 0) = true := by simp [h0]
    rw [HW.out]
    have hS : RdS w g (xs, err) := ⟨p, n, c, h⟩
    clear h HW h0
    go_enter Try.func37, Try.ntmps37
    go_wp2_with fail
    refine hE.mono ?_
    rintro e w1 ⟨rfl, hw⟩
    subst hw
    go_wp2_with fail
    go_ret
    exact ⟨rfl, hS, Ex.refl _ _⟩

/-- The first error of a reader, or that something is left. -/
def endR (s : List Int × Nat) : Int := if s.2 = 0 then (if s.1 = [] then 0 else 3) else (s.2 : Int)

set_option maxRecDepth 20000 in
set_option maxHeartbeats 2000000 in
theorem end_any (g : Nat) (s : List Int × Nat) (w : World) (h : RdS w g s) :
    Calls Try.prog 38 #[.pointer (some ⟨g, 0, none⟩)] w fun e w' => e = .returned (.int .i64 (endR s)) ∧ w' = w := by
  obtain ⟨p, n, c, h⟩ := h
  obtain ⟨xs, err⟩ := s
  dsimp only at h
  have hE := err_any g p n c xs err w h
  have h1 := h.rest
  have hl := h.rd.len
  by_cases h0 : err = 0
  · subst h0
    by_cases hx : xs = []
    · subst hx
      have HW : Hid (endR ([], 0) = 0) := rfl
      obtain rfl : n = 0 := hl.symm
      rw [HW.out]
      clear h HW hl
      go_enter Try.func38, Try.ntmps38
      go_wp2_with fail
      refine hE.mono ?_
      rintro e w1 ⟨rfl, hw⟩
      subst hw
      go_wp2_with fail
      go_ret
      exact ⟨rfl, rfl⟩
    · have HW : Hid (endR (xs, 0) = 3) := by unfold Hid endR; dsimp only; rw [if_pos rfl, if_neg hx]
      have hn0 : 0 < n := by
        have : 0 < xs.length := List.length_pos_iff.2 hx
        omega
      rw [HW.out]
      clear h HW hl hx
      go_enter Try.func38, Try.ntmps38
      go_wp2_with fail
      refine hE.mono ?_
      rintro e w1 ⟨rfl, hw⟩
      subst hw
      go_wp2_with fail
      go_ret
      exact ⟨rfl, rfl⟩
  · have HW : Hid (endR (xs, err) = (err : Int)) := by unfold Hid endR; dsimp only; rw [if_neg h0]
    have hd0 : ((err : Int) != 0) = true := by simp [h0]
    rw [HW.out]
    clear h HW h0 hl h1
    go_enter Try.func38, Try.ntmps38
    go_wp2_with fail
    refine hE.mono ?_
    rintro e w1 ⟨rfl, hw⟩
    subst hw
    go_wp2_with fail
    go_ret
    exact ⟨rfl, rfl⟩

end Go.Proofs.Ytcnkpgbmegppbaa.M
