/-
  Own text: reading a reel's first record: contracts of Within, Bytes and End.
-/
import Derived.Test.YtpjhadaiodnnaaaReader
import Derived.Test.YtpjhadaiodnnaaaNAt
namespace Go.Proofs.Ytpjhadaiodnnaaa.M
open Go.ChangeShapes Go.WideShapes Go.ChangeAt Go.RowKit

/-- A reader behind a number of at most 2^40: its number, and what it is then. -/
def wL (lo : Nat) (s : List Int × Nat) : Int × (List Int × Nat) :=
  if s.2 = 0 then (if (numR s.1).2.2 = 0 then (if lo ≤ (numR s.1).1 ∧ (numR s.1).1 ≤ 1099511627776 then (((numR s.1).1 : Int), (s.1.drop (numR s.1).2.1, 0)) else (0, (s.1, 5))) else (0, (s.1, (numR s.1).2.2))) else (0, s)

theorem numG_bad : ∀ (xs : List Int) (i acc : Nat), (numG i acc xs).2.2 ≠ 0 → (numG i acc xs).1 = 0 := by
  intro xs
  induction xs with
  | nil => intro i acc _; rfl
  | cons x l ih =>
    intro i acc
    unfold numG
    split
    · intro _; rfl
    · split
      · intro _; rfl
      · split
        · intro h; exact absurd rfl h
        · exact ih _ _

theorem numR_bad {xs : List Int} (h : (numR xs).2.2 ≠ 0) : (numR xs).1 = 0 := numG_bad xs 0 0 h

/-- A reader in block g that has this to read, and that error. -/
def RdS (w : World) (g : Nat) (s : List Int × Nat) : Prop := ∃ p n c, Rdr w g p n c s.1 s.2

theorem Ex.of_grown {w w' : World} {g : Nat} (h : w.grownBy w' (some g)) : Ex g w w' := ⟨h.os, h.tape, h.output, h.size, fun k hk hne => h.block k hk (fun e => hne (Option.some.inj e))⟩

set_option maxRecDepth 20000 in
set_option maxHeartbeats 2000000 in
theorem within_0 (g : Nat) (s : List Int × Nat) (w : World) (h : RdS w g s) :
    Calls Try.prog 68 #[.pointer (some ⟨g, 0, none⟩), .int .i64 0, .int .i64 1099511627776] w fun e w' => e = .returned (.int .i64 (wL 0 s).1) ∧ RdS w' g (wL 0 s).2 ∧ Ex g w w' := by
  obtain ⟨p, n, c, h⟩ := h
  obtain ⟨xs, err⟩ := s
  dsimp only at h
  have hE := err_any g p n c xs err w h
  by_cases h0 : err = 0
  · subst h0
    have hN := number_any p n c xs w h.rd h.byt h.room
    have h1 := h.rest
    by_cases he : (numR xs).2.2 = 0
    · have hroom := num_room h.byt he
      have hl := h.rd.len
      obtain ⟨b, o, rfl, _⟩ := h.rd.cells (by omega)
      obtain ⟨m, hm64, hme, _⟩ := numR_form h.byt he
      have hv : (numR xs).1 < 18446744073709551616 := by rw [hme]; exact hm64
      rw [he] at hN
      by_cases hle : 0 ≤ (numR xs).1 ∧ (numR xs).1 ≤ 1099511627776
      · have HW : Hid (wL 0 (xs, 0) = (((numR xs).1 : Int), (xs.drop (numR xs).2.1, 0))) := by unfold Hid wL; dsimp only; rw [if_pos rfl, if_pos he, if_pos hle]
        have hS := step_ok g b o n c xs 0 (numR xs).2.1 w h (by omega) (by omega)
        rw [HW.out]
        generalize (numR xs).1 = v at *
        generalize (numR xs).2.1 = a at *
        have hc1 : IntKind.i64.wrap (v : Int) = (v : Int) := by rw [IntKind.wrap_i64]; omega
        have d1 : decide ((4611686018427387904 : Int) < (v : Int)) = false := decide_eq_false (by omega)
        have d2 : decide ((v : Int) < 0) = false := decide_eq_false (by omega)
        have d3 : decide ((1099511627776 : Int) < (v : Int)) = false := decide_eq_false (by omega)
        clear h he hroom hl hme HW hv hle
        go_enter Try.func68, Try.ntmps68
        go_wp2_with fail
        refine hE.mono ?_
        rintro e w1 ⟨rfl, hw⟩
        subst hw
        go_wp2_with fail
        refine hN.mono ?_
        rintro e w1 ⟨rfl, hw⟩
        subst hw
        go_wp2_with fail
        refine hS.mono ?_
        rintro e w2 ⟨rfl, ⟨p', c', hR⟩, hg⟩
        go_wp2_with fail
        go_ret
        exact ⟨rfl, ⟨p', _, c', hR⟩, Ex.of_grown hg⟩
      · have HW : Hid (wL 0 (xs, 0) = (0, (xs, 5))) := by unfold Hid wL; dsimp only; rw [if_pos rfl, if_pos he, if_neg hle]
        have hS := step_err g (some ⟨b, o, none⟩) n c xs 0 (numR xs).2.1 5 w h (by decide)
        rw [HW.out]
        generalize (numR xs).1 = v at *
        generalize (numR xs).2.1 = a at *
        clear h he hroom hl hme HW
        by_cases hbig : 4611686018427387904 < v
        · have d1 : decide ((4611686018427387904 : Int) < (v : Int)) = true := decide_eq_true (by omega)
          clear hle hv hbig
          go_enter Try.func68, Try.ntmps68
          go_wp2_with fail
          refine hE.mono ?_
          rintro e w1 ⟨rfl, hw⟩
          subst hw
          go_wp2_with fail
          refine hN.mono ?_
          rintro e w1 ⟨rfl, hw⟩
          subst hw
          go_wp2_with fail
          refine hS.mono ?_
          rintro e w2 ⟨rfl, hR, hg⟩
          go_wp2_with fail
          go_ret
          exact ⟨rfl, ⟨_, _, _, hR⟩, Ex.of_grown hg⟩
        · have hc1 : IntKind.i64.wrap (v : Int) = (v : Int) := by rw [IntKind.wrap_i64]; omega
          have d1 : decide ((4611686018427387904 : Int) < (v : Int)) = false := decide_eq_false (by omega)
          by_cases hsm : (v : Int) < 0
          · exact absurd hsm (by omega)
          · have d2 : decide ((v : Int) < 0) = false := decide_eq_false hsm
            have d3 : decide ((1099511627776 : Int) < (v : Int)) = true := decide_eq_true (by omega)
            clear hle hv hbig
            go_enter Try.func68, Try.ntmps68
            go_wp2_with fail
            refine hE.mono ?_
            rintro e w1 ⟨rfl, hw⟩
            subst hw
            go_wp2_with fail
            refine hN.mono ?_
            rintro e w1 ⟨rfl, hw⟩
            subst hw
            go_wp2_with fail
            refine hS.mono ?_
            rintro e w2 ⟨rfl, hR, hg⟩
            go_wp2_with fail
            go_ret
            exact ⟨rfl, ⟨_, _, _, hR⟩, Ex.of_grown hg⟩
    · have HW : Hid (wL 0 (xs, 0) = (0, (xs, (numR xs).2.2))) := by unfold Hid wL; dsimp only; rw [if_pos rfl, if_neg he]
      have hS := step_err g p n c xs 0 (numR xs).2.1 (numR xs).2.2 w h (by omega)
      rw [numR_bad he] at hN
      rw [HW.out]
      generalize (numR xs).2.1 = a at *
      generalize (numR xs).2.2 = d at *
      have hd0 : ((d : Int) == 0) = false := by rw [beq_eq_false_iff_ne]; omega
      clear h he HW
      go_enter Try.func68, Try.ntmps68
      go_wp2_with fail
      refine hE.mono ?_
      rintro e w1 ⟨rfl, hw⟩
      subst hw
      go_wp2_with fail
      refine hN.mono ?_
      rintro e w1 ⟨rfl, hw⟩
      subst hw
      go_wp2_with fail
      refine hS.mono ?_
      rintro e w2 ⟨rfl, hR, hg⟩
      go_wp2_with fail
      go_ret
      exact ⟨rfl, ⟨_, _, _, hR⟩, Ex.of_grown hg⟩
  · have HW : Hid (wL 0 (xs, err) = (0, (xs, err))) := by unfold Hid wL; dsimp only; rw [if_neg h0]
    have hd0 : ((err : Int) != 0) = true := by simp [h0]
    rw [HW.out]
    have hS : RdS w g (xs, err) := ⟨p, n, c, h⟩
    clear h HW h0
    go_enter Try.func68, Try.ntmps68
    go_wp2_with fail
    refine hE.mono ?_
    rintro e w1 ⟨rfl, hw⟩
    subst hw
    go_wp2_with fail
    go_ret
    exact ⟨rfl, hS, Ex.refl _ _⟩

set_option maxRecDepth 20000 in
set_option maxHeartbeats 2000000 in
theorem within_1 (g : Nat) (s : List Int × Nat) (w : World) (h : RdS w g s) :
    Calls Try.prog 68 #[.pointer (some ⟨g, 0, none⟩), .int .i64 1, .int .i64 1099511627776] w fun e w' => e = .returned (.int .i64 (wL 1 s).1) ∧ RdS w' g (wL 1 s).2 ∧ Ex g w w' := by
  obtain ⟨p, n, c, h⟩ := h
  obtain ⟨xs, err⟩ := s
  dsimp only at h
  have hE := err_any g p n c xs err w h
  by_cases h0 : err = 0
  · subst h0
    have hN := number_any p n c xs w h.rd h.byt h.room
    have h1 := h.rest
    by_cases he : (numR xs).2.2 = 0
    · have hroom := num_room h.byt he
      have hl := h.rd.len
      obtain ⟨b, o, rfl, _⟩ := h.rd.cells (by omega)
      obtain ⟨m, hm64, hme, _⟩ := numR_form h.byt he
      have hv : (numR xs).1 < 18446744073709551616 := by rw [hme]; exact hm64
      rw [he] at hN
      by_cases hle : 1 ≤ (numR xs).1 ∧ (numR xs).1 ≤ 1099511627776
      · have HW : Hid (wL 1 (xs, 0) = (((numR xs).1 : Int), (xs.drop (numR xs).2.1, 0))) := by unfold Hid wL; dsimp only; rw [if_pos rfl, if_pos he, if_pos hle]
        have hS := step_ok g b o n c xs 0 (numR xs).2.1 w h (by omega) (by omega)
        rw [HW.out]
        generalize (numR xs).1 = v at *
        generalize (numR xs).2.1 = a at *
        have hc1 : IntKind.i64.wrap (v : Int) = (v : Int) := by rw [IntKind.wrap_i64]; omega
        have d1 : decide ((4611686018427387904 : Int) < (v : Int)) = false := decide_eq_false (by omega)
        have d2 : decide ((v : Int) < 1) = false := decide_eq_false (by omega)
        have d3 : decide ((1099511627776 : Int) < (v : Int)) = false := decide_eq_false (by omega)
        clear h he hroom hl hme HW hv hle
        go_enter Try.func68, Try.ntmps68
        go_wp2_with fail
        refine hE.mono ?_
        rintro e w1 ⟨rfl, hw⟩
        subst hw
        go_wp2_with fail
        refine hN.mono ?_
        rintro e w1 ⟨rfl, hw⟩
        subst hw
        go_wp2_with fail
        refine hS.mono ?_
        rintro e w2 ⟨rfl, ⟨p', c', hR⟩, hg⟩
        go_wp2_with fail
        go_ret
        exact ⟨rfl, ⟨p', _, c', hR⟩, Ex.of_grown hg⟩
      · have HW : Hid (wL 1 (xs, 0) = (0, (xs, 5))) := by unfold Hid wL; dsimp only; rw [if_pos rfl, if_pos he, if_neg hle]
        have hS := step_err g (some ⟨b, o, none⟩) n c xs 0 (numR xs).2.1 5 w h (by decide)
        rw [HW.out]
        generalize (numR xs).1 = v at *
        generalize (numR xs).2.1 = a at *
        clear h he hroom hl hme HW
        by_cases hbig : 4611686018427387904 < v
        · have d1 : decide ((4611686018427387904 : Int) < (v : Int)) = true := decide_eq_true (by omega)
          clear hle hv hbig
          go_enter Try.func68, Try.ntmps68
          go_wp2_with fail
          refine hE.mono ?_
          rintro e w1 ⟨rfl, hw⟩
          subst hw
          go_wp2_with fail
          refine hN.mono ?_
          rintro e w1 ⟨rfl, hw⟩
          subst hw
          go_wp2_with fail
          refine hS.mono ?_
          rintro e w2 ⟨rfl, hR, hg⟩
          go_wp2_with fail
          go_ret
          exact ⟨rfl, ⟨_, _, _, hR⟩, Ex.of_grown hg⟩
        · have hc1 : IntKind.i64.wrap (v : Int) = (v : Int) := by rw [IntKind.wrap_i64]; omega
          have d1 : decide ((4611686018427387904 : Int) < (v : Int)) = false := decide_eq_false (by omega)
          by_cases hsm : (v : Int) < 1
          · have d2 : decide ((v : Int) < 1) = true := decide_eq_true hsm
            clear hle hv hbig
            go_enter Try.func68, Try.ntmps68
            go_wp2_with fail
            refine hE.mono ?_
            rintro e w1 ⟨rfl, hw⟩
            subst hw
            go_wp2_with fail
            refine hN.mono ?_
            rintro e w1 ⟨rfl, hw⟩
            subst hw
            go_wp2_with fail
            refine hS.mono ?_
            rintro e w2 ⟨rfl, hR, hg⟩
            go_wp2_with fail
            go_ret
            exact ⟨rfl, ⟨_, _, _, hR⟩, Ex.of_grown hg⟩
          · have d2 : decide ((v : Int) < 1) = false := decide_eq_false hsm
            have d3 : decide ((1099511627776 : Int) < (v : Int)) = true := decide_eq_true (by omega)
            clear hle hv hbig
            go_enter Try.func68, Try.ntmps68
            go_wp2_with fail
            refine hE.mono ?_
            rintro e w1 ⟨rfl, hw⟩
            subst hw
            go_wp2_with fail
            refine hN.mono ?_
            rintro e w1 ⟨rfl, hw⟩
            subst hw
            go_wp2_with fail
            refine hS.mono ?_
            rintro e w2 ⟨rfl, hR, hg⟩
            go_wp2_with fail
            go_ret
            exact ⟨rfl, ⟨_, _, _, hR⟩, Ex.of_grown hg⟩
    · have HW : Hid (wL 1 (xs, 0) = (0, (xs, (numR xs).2.2))) := by unfold Hid wL; dsimp only; rw [if_pos rfl, if_neg he]
      have hS := step_err g p n c xs 0 (numR xs).2.1 (numR xs).2.2 w h (by omega)
      rw [numR_bad he] at hN
      rw [HW.out]
      generalize (numR xs).2.1 = a at *
      generalize (numR xs).2.2 = d at *
      have hd0 : ((d : Int) == 0) = false := by rw [beq_eq_false_iff_ne]; omega
      clear h he HW
      go_enter Try.func68, Try.ntmps68
      go_wp2_with fail
      refine hE.mono ?_
      rintro e w1 ⟨rfl, hw⟩
      subst hw
      go_wp2_with fail
      refine hN.mono ?_
      rintro e w1 ⟨rfl, hw⟩
      subst hw
      go_wp2_with fail
      refine hS.mono ?_
      rintro e w2 ⟨rfl, hR, hg⟩
      go_wp2_with fail
      go_ret
      exact ⟨rfl, ⟨_, _, _, hR⟩, Ex.of_grown hg⟩
  · have HW : Hid (wL 1 (xs, err) = (0, (xs, err))) := by unfold Hid wL; dsimp only; rw [if_neg h0]
    have hd0 : ((err : Int) != 0) = true := by simp [h0]
    rw [HW.out]
    have hS : RdS w g (xs, err) := ⟨p, n, c, h⟩
    clear h HW h0
    go_enter Try.func68, Try.ntmps68
    go_wp2_with fail
    refine hE.mono ?_
    rintro e w1 ⟨rfl, hw⟩
    subst hw
    go_wp2_with fail
    go_ret
    exact ⟨rfl, hS, Ex.refl _ _⟩

/-- The first error of a reader, or that something is left. -/
def endR (s : List Int × Nat) : Int := if s.2 = 0 then (if s.1 = [] then 0 else 3) else (s.2 : Int)

set_option maxRecDepth 20000 in
set_option maxHeartbeats 2000000 in
theorem end_any (g : Nat) (s : List Int × Nat) (w : World) (h : RdS w g s) :
    Calls Try.prog 70 #[.pointer (some ⟨g, 0, none⟩)] w fun e w' => e = .returned (.int .i64 (endR s)) ∧ w' = w := by
  obtain ⟨p, n, c, h⟩ := h
  obtain ⟨xs, err⟩ := s
  dsimp only at h
  have hE := err_any g p n c xs err w h
  have h1 := h.rest
  have hl := h.rd.len
  by_cases h0 : err = 0
  · subst h0
    by_cases hx : xs = []
    · subst hx
      have HW : Hid (endR ([], 0) = 0) := rfl
      obtain rfl : n = 0 := hl.symm
      rw [HW.out]
      clear h HW hl
      go_enter Try.func70, Try.ntmps70
      go_wp2_with fail
      refine hE.mono ?_
      rintro e w1 ⟨rfl, hw⟩
      subst hw
      go_wp2_with fail
      go_ret
      exact ⟨rfl, rfl⟩
    · have HW : Hid (endR (xs, 0) = 3) := by unfold Hid endR; dsimp only; rw [if_pos rfl, if_neg hx]
      have hn0 : 0 < n := by
        have : 0 < xs.length := List.length_pos_iff.2 hx
        omega
      rw [HW.out]
      clear h HW hl hx
      go_enter Try.func70, Try.ntmps70
      go_wp2_with fail
      refine hE.mono ?_
      rintro e w1 ⟨rfl, hw⟩
      subst hw
      go_wp2_with fail
      go_ret
      exact ⟨rfl, rfl⟩
  · have HW : Hid (endR (xs, err) = (err : Int)) := by unfold Hid endR; dsimp only; rw [if_neg h0]
    have hd0 : ((err : Int) != 0) = true := by simp [h0]
    rw [HW.out]
    clear h HW h0 hl h1
    go_enter Try.func70, Try.ntmps70
    go_wp2_with fail
    refine hE.mono ?_
    rintro e w1 ⟨rfl, hw⟩
    subst hw
    go_wp2_with fail
    go_ret
    exact ⟨rfl, rfl⟩

/-- A reader behind bytes, at most so many: they, and what it is then. -/
def bR (most : Nat) (s : List Int × Nat) : List Int × (List Int × Nat) :=
  if s.2 = 0 then (if (numR s.1).2.2 = 0 then (if most < (numR s.1).1 then ([], (s.1, 4)) else if s.1.length - (numR s.1).2.1 < (numR s.1).1 then ([], (s.1, 2)) else ((s.1.drop (numR s.1).2.1).take (numR s.1).1, (s.1.drop ((numR s.1).2.1 + (numR s.1).1), 0))) else ([], (s.1, (numR s.1).2.2))) else ([], s)
set_option maxRecDepth 20000 in
theorem bytes_good2 (g b o n c : Nat) (xs : List Int) (most : Nat) (w : World) (h : Rdr w g (some ⟨b, o, none⟩) n c xs 0) (he : (numR xs).2.2 = 0) (hm : most ≤ 1099511627776) (hv : (numR xs).1 ≤ most) (hs : (numR xs).2.1 + (numR xs).1 ≤ n) :
    Calls Try.prog 69 #[.pointer (some ⟨g, 0, none⟩), .int .i64 most] w fun e w' => ∃ p2 c2, e = .returned (.slice p2 (numR xs).1 c2) ∧ Ow .u8 5 w' w.heap.size p2 (numR xs).1 c2 ((xs.drop (numR xs).2.1).take (numR xs).1) ∧ (∃ p' c', Rdr w' g p' (n - ((numR xs).2.1 + (numR xs).1)) c' (xs.drop ((numR xs).2.1 + (numR xs).1)) 0) ∧ Below g w w' := by
  have hE := err_any g _ n c xs 0 w h
  have hroom := num_room h.byt he
  have hC := chunk_ok b o n c xs most w h.rd h.byt h.room hm he hv hs
  have hS := step_ok g b o n c xs 0 ((numR xs).2.1 + (numR xs).1) w h (by omega) hs
  have h1 := h.rest
  have hgs := h.lt
  have hbg := h.far b o (by omega) rfl
  generalize (numR xs).1 = v at hC hS hv hs ⊢
  generalize (numR xs).2.1 = a at hC hS hs ⊢
  have hS' := hS
  rw [Int.natCast_add] at hS'
  clear h he hroom hS
  go_enter Try.func69, Try.ntmps69
  go_wp2_with fail
  refine hE.mono ?_
  rintro e w1 ⟨rfl, hw⟩
  subst hw
  go_wp2_with fail
  refine hC.mono ?_
  rintro e w2 ⟨o2, rfl, hd, hw⟩
  subst hw
  go_wp2_with fail
  refine hS'.mono ?_
  rintro e w3 ⟨rfl, ⟨p3, c3, hR⟩, hg⟩
  have hd3 := hd.kept hg (fun b' o' _ hp => by cases hp; exact hbg)
  have ho := own_any _ _ _ _ w3 hd3 (by omega)
  have hb3 : Below g w2 w3 := (Below.refl _ _).grown hg (Nat.le_of_lt hgs) (fun k hk => by cases hk; exact Nat.le_refl _)
  clear hd hd3 hE hC hS'
  go_wp2_with fail
  refine ho.mono ?_
  rintro e w4 ⟨p4, c4, rfl, ho4, hb4⟩
  have hR4 := hR.below hb4 hR.lt
  have hb5 := hb3.trans (hb4.mono (Nat.le_of_lt hR.lt))
  have hsz3 : w2.heap.size ≤ w3.heap.size := hb3.size
  clear ho hb3 hb4 hR
  go_wp2_with fail
  go_ret
  exact ⟨p4, c4, rfl, ho4.lower hsz3, ⟨p3, c3, hR4⟩, hb5⟩


/-- No bytes. -/
theorem Rd.zero (w : World) : Rd .u8 w none 0 0 [] := ⟨rfl, Nat.le_refl _, fun _ => rfl, fun h => absurd h (Nat.lt_irrefl _)⟩

set_option maxRecDepth 20000 in
set_option maxHeartbeats 2000000 in
theorem bytes_any (most : Nat) (hm : most ≤ 1099511627776) (g : Nat) (s : List Int × Nat) (w : World) (h : RdS w g s) :
    Calls Try.prog 69 #[.pointer (some ⟨g, 0, none⟩), .int .i64 most] w fun e w' => (∃ p2 n2 c2, e = .returned (.slice p2 n2 c2) ∧ Ow .u8 5 w' w.heap.size p2 n2 c2 (bR most s).1) ∧ RdS w' g (bR most s).2 ∧ Below g w w' := by
  obtain ⟨p, n, c, h⟩ := h
  obtain ⟨xs, err⟩ := s
  dsimp only at h
  have hE := err_any g p n c xs err w h
  have hgs := h.lt
  by_cases h0 : err = 0
  · subst h0
    have h1 := h.rest
    have hl := h.rd.len
    by_cases he : (numR xs).2.2 = 0
    · have hroom := num_room h.byt he
      obtain ⟨b, o, rfl, _⟩ := h.rd.cells (by omega)
      by_cases hv : most < (numR xs).1
      · have HW : Hid (bR most (xs, 0) = ([], (xs, 4))) := by unfold Hid bR; dsimp only; rw [if_pos rfl, if_pos he, if_pos hv]
        have hC := chunk_long (some ⟨b, o, none⟩) n c xs most w h.rd h.byt h.room hm he hv
        have hS := step_err g (some ⟨b, o, none⟩) n c xs 0 0 4 w h (by decide)
        rw [HW.out]
        clear h HW hroom hl hv he
        go_enter Try.func69, Try.ntmps69
        go_wp2_with fail
        refine hE.mono ?_
        rintro e w1 ⟨rfl, hw⟩
        subst hw
        go_wp2_with fail
        refine hC.mono ?_
        rintro e w1 ⟨rfl, hw⟩
        subst hw
        go_wp2_with fail
        refine hS.mono ?_
        rintro e w2 ⟨rfl, hR, hg⟩
        have hb2 : Below g w1 w2 := (Below.refl _ _).grown hg (Nat.le_of_lt hgs) (fun k hk => by cases hk; exact Nat.le_refl _)
        have ho := own_any none 0 0 [] w2 (Rd.zero _) (by omega)
        go_wp2_with fail
        refine ho.mono ?_
        rintro e w3 ⟨p3, c3, rfl, hO, hb3⟩
        have hg2 : g < w2.heap.size := Nat.lt_of_lt_of_le hgs hg.size
        go_wp2_with fail
        go_ret
        exact ⟨⟨p3, 0, c3, rfl, hO.lower hg.size⟩, ⟨_, _, _, hR.below hb3 hg2⟩, hb2.trans (hb3.mono (Nat.le_of_lt hg2))⟩
      · by_cases hs : xs.length - (numR xs).2.1 < (numR xs).1
        · have HW : Hid (bR most (xs, 0) = ([], (xs, 2))) := by unfold Hid bR; dsimp only; rw [if_pos rfl, if_pos he, if_neg hv, if_pos hs]
          have hC := chunk_short (some ⟨b, o, none⟩) n c xs most w h.rd h.byt h.room hm he (by omega) (by omega) (by omega)
          have hS := step_err g (some ⟨b, o, none⟩) n c xs 0 0 2 w h (by decide)
          rw [HW.out]
          clear h HW hroom hl hv he hs
          go_enter Try.func69, Try.ntmps69
          go_wp2_with fail
          refine hE.mono ?_
          rintro e w1 ⟨rfl, hw⟩
          subst hw
          go_wp2_with fail
          refine hC.mono ?_
          rintro e w1 ⟨rfl, hw⟩
          subst hw
          go_wp2_with fail
          refine hS.mono ?_
          rintro e w2 ⟨rfl, hR, hg⟩
          have hb2 : Below g w1 w2 := (Below.refl _ _).grown hg (Nat.le_of_lt hgs) (fun k hk => by cases hk; exact Nat.le_refl _)
          have ho := own_any none 0 0 [] w2 (Rd.zero _) (by omega)
          go_wp2_with fail
          refine ho.mono ?_
          rintro e w3 ⟨p3, c3, rfl, hO, hb3⟩
          have hg2 : g < w2.heap.size := Nat.lt_of_lt_of_le hgs hg.size
          go_wp2_with fail
          go_ret
          exact ⟨⟨p3, 0, c3, rfl, hO.lower hg.size⟩, ⟨_, _, _, hR.below hb3 hg2⟩, hb2.trans (hb3.mono (Nat.le_of_lt hg2))⟩
        · have HW : Hid (bR most (xs, 0) = ((xs.drop (numR xs).2.1).take (numR xs).1, (xs.drop ((numR xs).2.1 + (numR xs).1), 0))) := by unfold Hid bR; dsimp only; rw [if_pos rfl, if_pos he, if_neg hv, if_neg hs]
          rw [HW.out]
          refine (bytes_good2 g b o n c xs most w h he hm (by omega) (by omega)).mono ?_
          rintro e w' ⟨p2, c2, rfl, hr2, ⟨p', c', hR⟩, hb⟩
          exact ⟨⟨p2, _, c2, rfl, hr2⟩, ⟨p', _, c', hR⟩, hb⟩
    · have HW : Hid (bR most (xs, 0) = ([], (xs, (numR xs).2.2))) := by unfold Hid bR; dsimp only; rw [if_pos rfl, if_neg he]
      have hC := chunk_err p n c xs most w h.rd h.byt h.room he
      have hS := step_err g p n c xs 0 0 (numR xs).2.2 w h (by omega)
      rw [HW.out]
      generalize (numR xs).2.2 = d at *
      clear h HW hl he
      go_enter Try.func69, Try.ntmps69
      go_wp2_with fail
      refine hE.mono ?_
      rintro e w1 ⟨rfl, hw⟩
      subst hw
      go_wp2_with fail
      refine hC.mono ?_
      rintro e w1 ⟨rfl, hw⟩
      subst hw
      go_wp2_with fail
      refine hS.mono ?_
      rintro e w2 ⟨rfl, hR, hg⟩
      have hb2 : Below g w1 w2 := (Below.refl _ _).grown hg (Nat.le_of_lt hgs) (fun k hk => by cases hk; exact Nat.le_refl _)
      have ho := own_any none 0 0 [] w2 (Rd.zero _) (by omega)
      go_wp2_with fail
      refine ho.mono ?_
      rintro e w3 ⟨p3, c3, rfl, hO, hb3⟩
      have hg2 : g < w2.heap.size := Nat.lt_of_lt_of_le hgs hg.size
      go_wp2_with fail
      go_ret
      exact ⟨⟨p3, 0, c3, rfl, hO.lower hg.size⟩, ⟨_, _, _, hR.below hb3 hg2⟩, hb2.trans (hb3.mono (Nat.le_of_lt hg2))⟩
  · have HW : Hid (bR most (xs, err) = ([], (xs, err))) := by unfold Hid bR; dsimp only; rw [if_neg h0]
    have hd0 : ((err : Int) != 0) = true := by simp [h0]
    rw [HW.out]
    have hS : RdS w g (xs, err) := ⟨p, n, c, h⟩
    clear h HW h0
    go_enter Try.func69, Try.ntmps69
    go_wp2_with fail
    refine hE.mono ?_
    rintro e w1 ⟨rfl, hw⟩
    subst hw
    go_wp2_with fail
    go_ret
    exact ⟨⟨none, 0, 0, rfl, Ow.empty _ _ _ _ _⟩, hS, Below.refl _ _⟩

end Go.Proofs.Ytpjhadaiodnnaaa.M
