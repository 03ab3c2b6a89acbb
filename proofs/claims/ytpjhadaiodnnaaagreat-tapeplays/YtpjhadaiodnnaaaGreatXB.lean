/-
  Own text: reading a reel's first record: contracts of Within, Bytes and End.
  Own text: the reel that a file's bytes begin with, in plain words; the contract of load.
  Own text: the contract of load.
  Own text: a region that draws its order: an operation, a call too, that gives one value in every world that meets a condition, and leaves all that stood as it was, may be taken first. No program is looked at.
  Own text: a disk's cells; contracts of the program's made, ready, file, Used, burn, Start, New.
  Own text: append, told more sharply: in place, or into new memory; a file's memory.
  Own text: a disk in plain words; its memory; contracts of a file's put, clear, sync.
  Own text: contracts of a file's crash and of the disk's fall.
  Own text: a file's crash and the disk's fall, in plain words.
  Own text: the contract of the disk's act: so much of something is done as the fuse lasts.
  Own text: contracts of the disk's Sync and Clear.
-/
import Derived.Test.YtpjhadaiodnnaaaGreatXA
import Derived.Deep.MidRow
import Derived.OrdersHeld
import Derived.Deep.RegionHeld
import Derived.WalkKit
import Derived.Test.YtpjhadaiodnnaaaGreatRows
import Derived.Deep.QuietTactic
import Derived.BigQuiet
import Derived.WalkSmall
import Derived.WalkSpells
import Derived.Deep.DeepAppendRoom
section
namespace Go.Proofs.YtpjhadaiodnnaaaGreat.M
open Go.ChangeShapes Go.WideShapes Go.ChangeAt Go.RowKit

/-- A reader behind a number of at most 2^40: its number, and what it is then. -/
def wL (lo : Nat) (s : List Int × Nat) : Int × (List Int × Nat) :=
  if s.2 = 0 then (if (numR s.1).2.2 = 0 then (if lo ≤ (numR s.1).1 ∧ (numR s.1).1 ≤ 1099511627776 then (((numR s.1).1 : Int), (s.1.drop (numR s.1).2.1, 0)) else (0, (s.1, 5))) else (0, (s.1, (numR s.1).2.2))) else (0, s)

theorem numG_bad : ∀ (xs : List Int) (i acc : Nat), (numG i acc xs).2.2 ≠ 0 → (numG i acc xs).1 = 0 := by
  intro xs
  induction xs with
  | nil => intro i acc _; rfl
  | cons x l ih =>
    intro i acc
    unfold numG
    split
    · intro _; rfl
    · split
      · intro _; rfl
      · split
        · intro h; exact absurd rfl h
        · exact ih _ _

theorem numR_bad {xs : List Int} (h : (numR xs).2.2 ≠ 0) : (numR xs).1 = 0 := numG_bad xs 0 0 h

/-- A reader in block g that has this to read, and that error. -/
def RdS (w : World) (g : Nat) (s : List Int × Nat) : Prop := ∃ p n c, Rdr w g p n c s.1 s.2

theorem Ex.of_grown {w w' : World} {g : Nat} (h : w.grownBy w' (some g)) : Ex g w w' := ⟨h.os, h.tape, h.output, h.size, fun k hk hne => h.block k hk (fun e => hne (Option.some.inj e))⟩

set_option maxRecDepth 20000 in
set_option maxHeartbeats 2000000 in
theorem within_0 (g : Nat) (s : List Int × Nat) (w : World) (h : RdS w g s) :
    Calls Tryz.prog 60 #[.pointer (some ⟨g, 0, none⟩), .int .i64 0, .int .i64 1099511627776] w fun e w' => e = .returned (.int .i64 (wL 0 s).1) ∧ RdS w' g (wL 0 s).2 ∧ Ex g w w' := by
  obtain ⟨p, n, c, h⟩ := h
  obtain ⟨xs, err⟩ := s
  dsimp only at h
  have hE := err_any g p n c xs err w h
  by_cases h0 : err = 0
  · subst h0
    have hN := number_any p n c xs w h.rd h.byt h.room
    have h1 := h.rest
    by_cases he : (numR xs).2.2 = 0
    · have hroom := num_room h.byt he
      have hl := h.rd.len
      obtain ⟨b, o, rfl, _⟩ := h.rd.cells (by omega)
      obtain ⟨m, hm64, hme, _⟩ := numR_form h.byt he
      have hv : (numR xs).1 < 18446744073709551616 := by rw [hme]; exact hm64
      rw [he] at hN
      by_cases hle : 0 ≤ (numR xs).1 ∧ (numR xs).1 ≤ 1099511627776
      · have HW : Hid (wL 0 (xs, 0) = (((numR xs).1 : Int), (xs.drop (numR xs).2.1, 0))) := by unfold Hid wL; dsimp only; rw [if_pos rfl, if_pos he, if_pos hle]
        have hS := step_ok g b o n c xs 0 (numR xs).2.1 w h (by omega) (by omega)
        rw [HW.out]
        generalize (numR xs).1 = v at *
        generalize (numR xs).2.1 = a at *
        have hc1 : IntKind.i64.wrap (v : Int) = (v : Int) := by rw [IntKind.wrap_i64]; omega
        have d1 : decide ((4611686018427387904 : Int) < (v : Int)) = false := decide_eq_false (by omega)
        have d2 : decide ((v : Int) < 0) = false := decide_eq_false (by omega)
        have d3 : decide ((1099511627776 : Int) < (v : Int)) = false := decide_eq_false (by omega)
        clear h he hroom hl hme HW hv hle
        go_enter Tryz.func60, Tryz.ntmps60
        go_wp2_with fail
        refine hE.mono ?_
        rintro e w1 ⟨rfl, hw⟩
        subst hw
        go_wp2_with fail
        refine hN.mono ?_
        rintro e w1 ⟨rfl, hw⟩
        subst hw
        go_wp2_with fail
        refine hS.mono ?_
        rintro e w2 ⟨rfl, ⟨p', c', hR⟩, hg⟩
        go_wp2_with fail
        go_ret
        exact ⟨rfl, ⟨p', _, c', hR⟩, Ex.of_grown hg⟩
      · have HW : Hid (wL 0 (xs, 0) = (0, (xs, 5))) := by unfold Hid wL; dsimp only; rw [if_pos rfl, if_pos he, if_neg hle]
        have hS := step_err g (some ⟨b, o, none⟩) n c xs 0 (numR xs).2.1 5 w h (by decide)
        rw [HW.out]
        generalize (numR xs).1 = v at *
        generalize (numR xs).2.1 = a at *
        clear h he hroom hl hme HW
        by_cases hbig : 4611686018427387904 < v
        · have d1 : decide ((4611686018427387904 : Int) < (v : Int)) = true := decide_eq_true (by omega)
          clear hle hv hbig
          go_enter Tryz.func60, Tryz.ntmps60
          go_wp2_with fail
          refine hE.mono ?_
          rintro e w1 ⟨rfl, hw⟩
          subst hw
          go_wp2_with fail
          refine hN.mono ?_
          rintro e w1 ⟨rfl, hw⟩
          subst hw
          go_wp2_with fail
          refine hS.mono ?_
          rintro e w2 ⟨rfl, hR, hg⟩
          go_wp2_with fail
          go_ret
          exact ⟨rfl, ⟨_, _, _, hR⟩, Ex.of_grown hg⟩
        · have hc1 : IntKind.i64.wrap (v : Int) = (v : Int) := by rw [IntKind.wrap_i64]; omega
          have d1 : decide ((4611686018427387904 : Int) < (v : Int)) = false := decide_eq_false (by omega)
          by_cases hsm : (v : Int) < 0
          · exact absurd hsm (by omega)
          · have d2 : decide ((v : Int) < 0) = false := decide_eq_false hsm
            have d3 : decide ((1099511627776 : Int) < (v : Int)) = true := decide_eq_true (by omega)
            clear hle hv hbig
            go_enter Tryz.func60, Tryz.ntmps60
            go_wp2_with fail
            refine hE.mono ?_
            rintro e w1 ⟨rfl, hw⟩
            subst hw
            go_wp2_with fail
            refine hN.mono ?_
            rintro e w1 ⟨rfl, hw⟩
            subst hw
            go_wp2_with fail
            refine hS.mono ?_
            rintro e w2 ⟨rfl, hR, hg⟩
            go_wp2_with fail
            go_ret
            exact ⟨rfl, ⟨_, _, _, hR⟩, Ex.of_grown hg⟩
    · have HW : Hid (wL 0 (xs, 0) = (0, (xs, (numR xs).2.2))) := by unfold Hid wL; dsimp only; rw [if_pos rfl, if_neg he]
      have hS := step_err g p n c xs 0 (numR xs).2.1 (numR xs).2.2 w h (by omega)
      rw [numR_bad he] at hN
      rw [HW.out]
      generalize (numR xs).2.1 = a at *
      generalize (numR xs).2.2 = d at *
      have hd0 : ((d : Int) == 0) = false := by rw [beq_eq_false_iff_ne]; omega
      clear h he HW
      go_enter Tryz.func60, Tryz.ntmps60
      go_wp2_with fail
      refine hE.mono ?_
      rintro e w1 ⟨rfl, hw⟩
      subst hw
      go_wp2_with fail
      refine hN.mono ?_
      rintro e w1 ⟨rfl, hw⟩
      subst hw
      go_wp2_with fail
      refine hS.mono ?_
      rintro e w2 ⟨rfl, hR, hg⟩
      go_wp2_with fail
      go_ret
      exact ⟨rfl, ⟨_, _, _, hR⟩, Ex.of_grown hg⟩
  · have HW : Hid (wL 0 (xs, err) = (0, (xs, err))) := by unfold Hid wL; dsimp only; rw [if_neg h0]
    have hd0 : ((err : Int) != 0) = true := by simp [h0]
    rw [HW.out]
    have hS : RdS w g (xs, err) := ⟨p, n, c, h⟩
    clear h HW h0
    go_enter Tryz.func60, Tryz.ntmps60
    go_wp2_with fail
    refine hE.mono ?_
    rintro e w1 ⟨rfl, hw⟩
    subst hw
    go_wp2_with fail
    go_ret
    exact ⟨rfl, hS, Ex.refl _ _⟩

set_option maxRecDepth 20000 in
set_option maxHeartbeats 2000000 in
theorem within_1 (g : Nat) (s : List Int × Nat) (w : World) (h : RdS w g s) :
    Calls Tryz.prog 60 #[.pointer (some ⟨g, 0, none⟩), .int .i64 1, .int .i64 1099511627776] w fun e w' => e = .returned (.int .i64 (wL 1 s).1) ∧ RdS w' g (wL 1 s).2 ∧ Ex g w w' := by
  obtain ⟨p, n, c, h⟩ := h
  obtain ⟨xs, err⟩ := s
  dsimp only at h
  have hE := err_any g p n c xs err w h
  by_cases h0 : err = 0
  · subst h0
    have hN := number_any p n c xs w h.rd h.byt h.room
    have h1 := h.rest
    by_cases he : (numR xs).2.2 = 0
    · have hroom := num_room h.byt he
      have hl := h.rd.len
      obtain ⟨b, o, rfl, _⟩ := h.rd.cells (by omega)
      obtain ⟨m, hm64, hme, _⟩ := numR_form h.byt he
      have hv : (numR xs).1 < 18446744073709551616 := by rw [hme]; exact hm64
      rw [he] at hN
      by_cases hle : 1 ≤ (numR xs).1 ∧ (numR xs).1 ≤ 1099511627776
      · have HW : Hid (wL 1 (xs, 0) = (((numR xs).1 : Int), (xs.drop (numR xs).2.1, 0))) := by unfold Hid wL; dsimp only; rw [if_pos rfl, if_pos he, if_pos hle]
        have hS := step_ok g b o n c xs 0 (numR xs).2.1 w h (by omega) (by omega)
        rw [HW.out]
        generalize (numR xs).1 = v at *
        generalize (numR xs).2.1 = a at *
        have hc1 : IntKind.i64.wrap (v : Int) = (v : Int) := by rw [IntKind.wrap_i64]; omega
        have d1 : decide ((4611686018427387904 : Int) < (v : Int)) = false := decide_eq_false (by omega)
        have d2 : decide ((v : Int) < 1) = false := decide_eq_false (by omega)
        have d3 : decide ((1099511627776 : Int) < (v : Int)) = false := decide_eq_false (by omega)
        clear h he hroom hl hme HW hv hle
        go_enter Tryz.func60, Tryz.ntmps60
        go_wp2_with fail
        refine hE.mono ?_
        rintro e w1 ⟨rfl, hw⟩
        subst hw
        go_wp2_with fail
        refine hN.mono ?_
        rintro e w1 ⟨rfl, hw⟩
        subst hw
        go_wp2_with fail
        refine hS.mono ?_
        rintro e w2 ⟨rfl, ⟨p', c', hR⟩, hg⟩
        go_wp2_with fail
        go_ret
        exact ⟨rfl, ⟨p', _, c', hR⟩, Ex.of_grown hg⟩
      · have HW : Hid (wL 1 (xs, 0) = (0, (xs, 5))) := by unfold Hid wL; dsimp only; rw [if_pos rfl, if_pos he, if_neg hle]
        have hS := step_err g (some ⟨b, o, none⟩) n c xs 0 (numR xs).2.1 5 w h (by decide)
        rw [HW.out]
        generalize (numR xs).1 = v at *
        generalize (numR xs).2.1 = a at *
        clear h he hroom hl hme HW
        by_cases hbig : 4611686018427387904 < v
        · have d1 : decide ((4611686018427387904 : Int) < (v : Int)) = true := decide_eq_true (by omega)
          clear hle hv hbig
          go_enter Tryz.func60, Tryz.ntmps60
          go_wp2_with fail
          refine hE.mono ?_
          rintro e w1 ⟨rfl, hw⟩
          subst hw
          go_wp2_with fail
          refine hN.mono ?_
          rintro e w1 ⟨rfl, hw⟩
          subst hw
          go_wp2_with fail
          refine hS.mono ?_
          rintro e w2 ⟨rfl, hR, hg⟩
          go_wp2_with fail
          go_ret
          exact ⟨rfl, ⟨_, _, _, hR⟩, Ex.of_grown hg⟩
        · have hc1 : IntKind.i64.wrap (v : Int) = (v : Int) := by rw [IntKind.wrap_i64]; omega
          have d1 : decide ((4611686018427387904 : Int) < (v : Int)) = false := decide_eq_false (by omega)
          by_cases hsm : (v : Int) < 1
          · have d2 : decide ((v : Int) < 1) = true := decide_eq_true hsm
            clear hle hv hbig
            go_enter Tryz.func60, Tryz.ntmps60
            go_wp2_with fail
            refine hE.mono ?_
            rintro e w1 ⟨rfl, hw⟩
            subst hw
            go_wp2_with fail
            refine hN.mono ?_
            rintro e w1 ⟨rfl, hw⟩
            subst hw
            go_wp2_with fail
            refine hS.mono ?_
            rintro e w2 ⟨rfl, hR, hg⟩
            go_wp2_with fail
            go_ret
            exact ⟨rfl, ⟨_, _, _, hR⟩, Ex.of_grown hg⟩
          · have d2 : decide ((v : Int) < 1) = false := decide_eq_false hsm
            have d3 : decide ((1099511627776 : Int) < (v : Int)) = true := decide_eq_true (by omega)
            clear hle hv hbig
            go_enter Tryz.func60, Tryz.ntmps60
            go_wp2_with fail
            refine hE.mono ?_
            rintro e w1 ⟨rfl, hw⟩
            subst hw
            go_wp2_with fail
            refine hN.mono ?_
            rintro e w1 ⟨rfl, hw⟩
            subst hw
            go_wp2_with fail
            refine hS.mono ?_
            rintro e w2 ⟨rfl, hR, hg⟩
            go_wp2_with fail
            go_ret
            exact ⟨rfl, ⟨_, _, _, hR⟩, Ex.of_grown hg⟩
    · have HW : Hid (wL 1 (xs, 0) = (0, (xs, (numR xs).2.2))) := by unfold Hid wL; dsimp only; rw [if_pos rfl, if_neg he]
      have hS := step_err g p n c xs 0 (numR xs).2.1 (numR xs).2.2 w h (by omega)
      rw [numR_bad he] at hN
      rw [HW.out]
      generalize (numR xs).2.1 = a at *
      generalize (numR xs).2.2 = d at *
      have hd0 : ((d : Int) == 0) = false := by rw [beq_eq_false_iff_ne]; omega
      clear h he HW
      go_enter Tryz.func60, Tryz.ntmps60
      go_wp2_with fail
      refine hE.mono ?_
      rintro e w1 ⟨rfl, hw⟩
      subst hw
      go_wp2_with fail
      refine hN.mono ?_
      rintro e w1 ⟨rfl, hw⟩
      subst hw
      go_wp2_with fail
      refine hS.mono ?_
      rintro e w2 ⟨rfl, hR, hg⟩
      go_wp2_with fail
      go_ret
      exact ⟨rfl, ⟨_, _, _, hR⟩, Ex.of_grown hg⟩
  · have HW : Hid (wL 1 (xs, err) = (0, (xs, err))) := by unfold Hid wL; dsimp only; rw [if_neg h0]
    have hd0 : ((err : Int) != 0) = true := by simp [h0]
    rw [HW.out]
    have hS : RdS w g (xs, err) := ⟨p, n, c, h⟩
    clear h HW h0
    go_enter Tryz.func60, Tryz.ntmps60
    go_wp2_with fail
    refine hE.mono ?_
    rintro e w1 ⟨rfl, hw⟩
    subst hw
    go_wp2_with fail
    go_ret
    exact ⟨rfl, hS, Ex.refl _ _⟩

/-- The first error of a reader, or that something is left. -/
def endR (s : List Int × Nat) : Int := if s.2 = 0 then (if s.1 = [] then 0 else 3) else (s.2 : Int)

set_option maxRecDepth 20000 in
set_option maxHeartbeats 2000000 in
theorem end_any (g : Nat) (s : List Int × Nat) (w : World) (h : RdS w g s) :
    Calls Tryz.prog 62 #[.pointer (some ⟨g, 0, none⟩)] w fun e w' => e = .returned (.int .i64 (endR s)) ∧ w' = w := by
  obtain ⟨p, n, c, h⟩ := h
  obtain ⟨xs, err⟩ := s
  dsimp only at h
  have hE := err_any g p n c xs err w h
  have h1 := h.rest
  have hl := h.rd.len
  by_cases h0 : err = 0
  · subst h0
    by_cases hx : xs = []
    · subst hx
      have HW : Hid (endR ([], 0) = 0) := rfl
      obtain rfl : n = 0 := hl.symm
      rw [HW.out]
      clear h HW hl
      go_enter Tryz.func62, Tryz.ntmps62
      go_wp2_with fail
      refine hE.mono ?_
      rintro e w1 ⟨rfl, hw⟩
      subst hw
      go_wp2_with fail
      go_ret
      exact ⟨rfl, rfl⟩
    · have HW : Hid (endR (xs, 0) = 3) := by unfold Hid endR; dsimp only; rw [if_pos rfl, if_neg hx]
      have hn0 : 0 < n := by
        have : 0 < xs.length := List.length_pos_iff.2 hx
        omega
      rw [HW.out]
      clear h HW hl hx
      go_enter Tryz.func62, Tryz.ntmps62
      go_wp2_with fail
      refine hE.mono ?_
      rintro e w1 ⟨rfl, hw⟩
      subst hw
      go_wp2_with fail
      go_ret
      exact ⟨rfl, rfl⟩
  · have HW : Hid (endR (xs, err) = (err : Int)) := by unfold Hid endR; dsimp only; rw [if_neg h0]
    have hd0 : ((err : Int) != 0) = true := by simp [h0]
    rw [HW.out]
    clear h HW h0 hl h1
    go_enter Tryz.func62, Tryz.ntmps62
    go_wp2_with fail
    refine hE.mono ?_
    rintro e w1 ⟨rfl, hw⟩
    subst hw
    go_wp2_with fail
    go_ret
    exact ⟨rfl, rfl⟩

/-- A reader behind bytes, at most so many: they, and what it is then. -/
def bR (most : Nat) (s : List Int × Nat) : List Int × (List Int × Nat) :=
  if s.2 = 0 then (if (numR s.1).2.2 = 0 then (if most < (numR s.1).1 then ([], (s.1, 4)) else if s.1.length - (numR s.1).2.1 < (numR s.1).1 then ([], (s.1, 2)) else ((s.1.drop (numR s.1).2.1).take (numR s.1).1, (s.1.drop ((numR s.1).2.1 + (numR s.1).1), 0))) else ([], (s.1, (numR s.1).2.2))) else ([], s)
set_option maxRecDepth 20000 in
theorem bytes_good2 (g b o n c : Nat) (xs : List Int) (most : Nat) (w : World) (h : Rdr w g (some ⟨b, o, none⟩) n c xs 0) (he : (numR xs).2.2 = 0) (hm : most ≤ 1099511627776) (hv : (numR xs).1 ≤ most) (hs : (numR xs).2.1 + (numR xs).1 ≤ n) :
    Calls Tryz.prog 61 #[.pointer (some ⟨g, 0, none⟩), .int .i64 most] w fun e w' => ∃ p2 c2, e = .returned (.slice p2 (numR xs).1 c2) ∧ Ow .u8 5 w' w.heap.size p2 (numR xs).1 c2 ((xs.drop (numR xs).2.1).take (numR xs).1) ∧ (∃ p' c', Rdr w' g p' (n - ((numR xs).2.1 + (numR xs).1)) c' (xs.drop ((numR xs).2.1 + (numR xs).1)) 0) ∧ Below g w w' := by
  have hE := err_any g _ n c xs 0 w h
  have hroom := num_room h.byt he
  have hC := chunk_ok b o n c xs most w h.rd h.byt h.room hm he hv hs
  have hS := step_ok g b o n c xs 0 ((numR xs).2.1 + (numR xs).1) w h (by omega) hs
  have h1 := h.rest
  have hgs := h.lt
  have hbg := h.far b o (by omega) rfl
  generalize (numR xs).1 = v at hC hS hv hs ⊢
  generalize (numR xs).2.1 = a at hC hS hs ⊢
  have hS' := hS
  rw [Int.natCast_add] at hS'
  clear h he hroom hS
  go_enter Tryz.func61, Tryz.ntmps61
  go_wp2_with fail
  refine hE.mono ?_
  rintro e w1 ⟨rfl, hw⟩
  subst hw
  go_wp2_with fail
  refine hC.mono ?_
  rintro e w2 ⟨o2, rfl, hd, hw⟩
  subst hw
  go_wp2_with fail
  refine hS'.mono ?_
  rintro e w3 ⟨rfl, ⟨p3, c3, hR⟩, hg⟩
  have hd3 := hd.kept hg (fun b' o' _ hp => by cases hp; exact hbg)
  have ho := own_any _ _ _ _ w3 hd3 (by omega)
  have hb3 : Below g w2 w3 := (Below.refl _ _).grown hg (Nat.le_of_lt hgs) (fun k hk => by cases hk; exact Nat.le_refl _)
  clear hd hd3 hE hC hS'
  go_wp2_with fail
  refine ho.mono ?_
  rintro e w4 ⟨p4, c4, rfl, ho4, hb4⟩
  have hR4 := hR.below hb4 hR.lt
  have hb5 := hb3.trans (hb4.mono (Nat.le_of_lt hR.lt))
  have hsz3 : w2.heap.size ≤ w3.heap.size := hb3.size
  clear ho hb3 hb4 hR
  go_wp2_with fail
  go_ret
  exact ⟨p4, c4, rfl, ho4.lower hsz3, ⟨p3, c3, hR4⟩, hb5⟩


/-- No bytes. -/
theorem Rd.zero (w : World) : Rd .u8 w none 0 0 [] := ⟨rfl, Nat.le_refl _, fun _ => rfl, fun h => absurd h (Nat.lt_irrefl _)⟩

set_option maxRecDepth 20000 in
set_option maxHeartbeats 2000000 in
theorem bytes_any (most : Nat) (hm : most ≤ 1099511627776) (g : Nat) (s : List Int × Nat) (w : World) (h : RdS w g s) :
    Calls Tryz.prog 61 #[.pointer (some ⟨g, 0, none⟩), .int .i64 most] w fun e w' => (∃ p2 n2 c2, e = .returned (.slice p2 n2 c2) ∧ Ow .u8 5 w' w.heap.size p2 n2 c2 (bR most s).1) ∧ RdS w' g (bR most s).2 ∧ Below g w w' := by
  obtain ⟨p, n, c, h⟩ := h
  obtain ⟨xs, err⟩ := s
  dsimp only at h
  have hE := err_any g p n c xs err w h
  have hgs := h.lt
  by_cases h0 : err = 0
  · subst h0
    have h1 := h.rest
    have hl := h.rd.len
    by_cases he : (numR xs).2.2 = 0
    · have hroom := num_room h.byt he
      obtain ⟨b, o, rfl, _⟩ := h.rd.cells (by omega)
      by_cases hv : most < (numR xs).1
      · have HW : Hid (bR most (xs, 0) = ([], (xs, 4))) := by unfold Hid bR; dsimp only; rw [if_pos rfl, if_pos he, if_pos hv]
        have hC := chunk_long (some ⟨b, o, none⟩) n c xs most w h.rd h.byt h.room hm he hv
        have hS := step_err g (some ⟨b, o, none⟩) n c xs 0 0 4 w h (by decide)
        rw [HW.out]
        clear h HW hroom hl hv he
        go_enter Tryz.func61, Tryz.ntmps61
        go_wp2_with fail
        refine hE.mono ?_
        rintro e w1 ⟨rfl, hw⟩
        subst hw
        go_wp2_with fail
        refine hC.mono ?_
        rintro e w1 ⟨rfl, hw⟩
        subst hw
        go_wp2_with fail
        refine hS.mono ?_
        rintro e w2 ⟨rfl, hR, hg⟩
        have hb2 : Below g w1 w2 := (Below.refl _ _).grown hg (Nat.le_of_lt hgs) (fun k hk => by cases hk; exact Nat.le_refl _)
        have ho := own_any none 0 0 [] w2 (Rd.zero _) (by omega)
        go_wp2_with fail
        refine ho.mono ?_
        rintro e w3 ⟨p3, c3, rfl, hO, hb3⟩
        have hg2 : g < w2.heap.size := Nat.lt_of_lt_of_le hgs hg.size
        go_wp2_with fail
        go_ret
        exact ⟨⟨p3, 0, c3, rfl, hO.lower hg.size⟩, ⟨_, _, _, hR.below hb3 hg2⟩, hb2.trans (hb3.mono (Nat.le_of_lt hg2))⟩
      · by_cases hs : xs.length - (numR xs).2.1 < (numR xs).1
        · have HW : Hid (bR most (xs, 0) = ([], (xs, 2))) := by unfold Hid bR; dsimp only; rw [if_pos rfl, if_pos he, if_neg hv, if_pos hs]
          have hC := chunk_short (some ⟨b, o, none⟩) n c xs most w h.rd h.byt h.room hm he (by omega) (by omega) (by omega)
          have hS := step_err g (some ⟨b, o, none⟩) n c xs 0 0 2 w h (by decide)
          rw [HW.out]
          clear h HW hroom hl hv he hs
          go_enter Tryz.func61, Tryz.ntmps61
          go_wp2_with fail
          refine hE.mono ?_
          rintro e w1 ⟨rfl, hw⟩
          subst hw
          go_wp2_with fail
          refine hC.mono ?_
          rintro e w1 ⟨rfl, hw⟩
          subst hw
          go_wp2_with fail
          refine hS.mono ?_
          rintro e w2 ⟨rfl, hR, hg⟩
          have hb2 : Below g w1 w2 := (Below.refl _ _).grown hg (Nat.le_of_lt hgs) (fun k hk => by cases hk; exact Nat.le_refl _)
          have ho := own_any none 0 0 [] w2 (Rd.zero _) (by omega)
          go_wp2_with fail
          refine ho.mono ?_
          rintro e w3 ⟨p3, c3, rfl, hO, hb3⟩
          have hg2 : g < w2.heap.size := Nat.lt_of_lt_of_le hgs hg.size
          go_wp2_with fail
          go_ret
          exact ⟨⟨p3, 0, c3, rfl, hO.lower hg.size⟩, ⟨_, _, _, hR.below hb3 hg2⟩, hb2.trans (hb3.mono (Nat.le_of_lt hg2))⟩
        · have HW : Hid (bR most (xs, 0) = ((xs.drop (numR xs).2.1).take (numR xs).1, (xs.drop ((numR xs).2.1 + (numR xs).1), 0))) := by unfold Hid bR; dsimp only; rw [if_pos rfl, if_pos he, if_neg hv, if_neg hs]
          rw [HW.out]
          refine (bytes_good2 g b o n c xs most w h he hm (by omega) (by omega)).mono ?_
          rintro e w' ⟨p2, c2, rfl, hr2, ⟨p', c', hR⟩, hb⟩
          exact ⟨⟨p2, _, c2, rfl, hr2⟩, ⟨p', _, c', hR⟩, hb⟩
    · have HW : Hid (bR most (xs, 0) = ([], (xs, (numR xs).2.2))) := by unfold Hid bR; dsimp only; rw [if_pos rfl, if_neg he]
      have hC := chunk_err p n c xs most w h.rd h.byt h.room he
      have hS := step_err g p n c xs 0 0 (numR xs).2.2 w h (by omega)
      rw [HW.out]
      generalize (numR xs).2.2 = d at *
      clear h HW hl he
      go_enter Tryz.func61, Tryz.ntmps61
      go_wp2_with fail
      refine hE.mono ?_
      rintro e w1 ⟨rfl, hw⟩
      subst hw
      go_wp2_with fail
      refine hC.mono ?_
      rintro e w1 ⟨rfl, hw⟩
      subst hw
      go_wp2_with fail
      refine hS.mono ?_
      rintro e w2 ⟨rfl, hR, hg⟩
      have hb2 : Below g w1 w2 := (Below.refl _ _).grown hg (Nat.le_of_lt hgs) (fun k hk => by cases hk; exact Nat.le_refl _)
      have ho := own_any none 0 0 [] w2 (Rd.zero _) (by omega)
      go_wp2_with fail
      refine ho.mono ?_
      rintro e w3 ⟨p3, c3, rfl, hO, hb3⟩
      have hg2 : g < w2.heap.size := Nat.lt_of_lt_of_le hgs hg.size
      go_wp2_with fail
      go_ret
      exact ⟨⟨p3, 0, c3, rfl, hO.lower hg.size⟩, ⟨_, _, _, hR.below hb3 hg2⟩, hb2.trans (hb3.mono (Nat.le_of_lt hg2))⟩
  · have HW : Hid (bR most (xs, err) = ([], (xs, err))) := by unfold Hid bR; dsimp only; rw [if_neg h0]
    have hd0 : ((err : Int) != 0) = true := by simp [h0]
    rw [HW.out]
    have hS : RdS w g (xs, err) := ⟨p, n, c, h⟩
    clear h HW h0
    go_enter Tryz.func61, Tryz.ntmps61
    go_wp2_with fail
    refine hE.mono ?_
    rintro e w1 ⟨rfl, hw⟩
    subst hw
    go_wp2_with fail
    go_ret
    exact ⟨⟨none, 0, 0, rfl, Ow.empty _ _ _ _ _⟩, hS, Below.refl _ _⟩

end Go.Proofs.YtpjhadaiodnnaaaGreat.M
end

section
namespace Go.Proofs.YtpjhadaiodnnaaaGreat.M
open Go.ChangeShapes Go.WideShapes Go.ChangeAt Go.RowKit

/-- A reel in plain words. -/
structure PR where
  gen : Int
  base : List Int
  recs : List (List Int)

def PR.z0 : PR := ⟨0, [], []⟩

/-- The reel that bytes begin with, and whether they are nothing else. -/
def ldR (xs : List Int) : PR × Bool :=
  if (allR xs).1 = [] then (.z0, false)
  else if endR (bR 8176 (wL 0 (wL 1 ((allR xs).1.getD 0 [], 0)).2).2).2 = 0 ∧ (wL 0 (wL 1 ((allR xs).1.getD 0 [], 0)).2).1 ≤ ((allR xs).1.length : Int) - 1 then
    (⟨(wL 1 ((allR xs).1.getD 0 [], 0)).1, (bR 8176 (wL 0 (wL 1 ((allR xs).1.getD 0 [], 0)).2).2).1, (allR xs).1.drop 1⟩, decide ((allR xs).2 = xs.length))
  else (.z0, false)

theorem RdS.ex {w w' : World} {B g : Nat} {s : List Int × Nat} (h : RdS w g s) (hb : Below B w w') (hg : g < B) : RdS w' g s := by
  obtain ⟨p, n, c, h⟩ := h
  exact ⟨p, n, c, h.below hb hg⟩

theorem RdV.tail {w : World} {p : Option Addr} {n c : Nat} {vs : List Value} (h : RdV w p n c vs) (h0 : 0 < n) : ∃ b o, p = some ⟨b, o, none⟩ ∧ RdV w (if c = 1 then some ⟨b, o, none⟩ else some ⟨b, o + 1, none⟩) (n - 1) (c - 1) (vs.drop 1) := by
  obtain ⟨b, o, rfl, hc⟩ := h.cells h0
  have hcap := h.cap
  refine ⟨b, o, rfl, by rw [List.length_drop, h.len], by omega, fun e => ?_, fun h1 => ?_⟩
  · split at e <;> cases e
  · rw [if_neg (by omega)]
    refine ⟨b, o + 1, rfl, fun i hi => ?_⟩
    have := hc (1 + i) (by omega)
    rw [show o + 1 + i = o + (1 + i) by omega, this, List.getD_eq_getElem?_getD, List.getD_eq_getElem?_getD, List.getElem?_drop]

/-- A slice of values that can be read; with room it lies in a row of its owner's, from block B on. -/
structure OwG (e : TypeId) (w : World) (B : Nat) (p : Option Addr) (n c : Nat) (vs : List Value) : Prop where
  rd : RdV w p n c vs
  own : 0 < c → ∃ b o cur, p = some ⟨b, o, none⟩ ∧ B ≤ b ∧ At e w b cur ∧ o + c ≤ cur.size

theorem OwG.len {e w B p n c vs} (h : OwG e w B p n c vs) : vs.length = n := h.rd.len
theorem OwG.cap {e w B p n c vs} (h : OwG e w B p n c vs) : n ≤ c := h.rd.cap

theorem OwV.g {e w B p n c vs} (h : OwV e w B p n c vs) : OwG e w B p n c vs :=
  ⟨h.rd, fun h0 => by
    rcases h.own with ⟨_, h1⟩ | h1
    · omega
    · rcases h1.2 with ⟨hv, _⟩ | ⟨g, cap, cur, hv, hg, hh, hc, hm, hs, ht⟩
      · injection hv with _ _ e3
        omega
      · injection hv with e1 e2 e3
        subst e1
        subst e3
        exact ⟨g, 0, cur, rfl, hg, hh, by omega⟩⟩

theorem OwG.ltC {e : TypeId} {w : World} {B n c : Nat} {p : Option Addr} {vs : List Value} (h : OwG e w B p n c vs) (x : Addr) (ex : p = some x) (h0 : 0 < c) : B ≤ x.block ∧ x.block < w.heap.size := by
  obtain ⟨b, o, cur, e1, hB, hA, _⟩ := h.own h0
  rw [ex] at e1
  cases e1
  exact ⟨hB, hA.lt⟩

theorem OwG.below {e w w' B p n c vs} (h : OwG e w B p n c vs) (hb : Below w.heap.size w w') : OwG e w' B p n c vs :=
  ⟨h.rd.below hb, fun h0 => by obtain ⟨b, o, cur, e1, h1, h2, h3⟩ := h.own h0; exact ⟨b, o, cur, e1, h1, h2.below hb, h3⟩⟩

theorem OwG.empty (e : TypeId) (w : World) (B : Nat) : OwG e w B none 0 0 [] := ⟨⟨rfl, Nat.le_refl _, fun _ => rfl, fun h => absurd h (Nat.lt_irrefl _)⟩, fun h => absurd h (Nat.lt_irrefl _)⟩

theorem OwG.lowerB {e : TypeId} {w : World} {B B' n c : Nat} {p : Option Addr} {vs : List Value} (h : OwG e w B p n c vs) (hB : B' ≤ B) : OwG e w B' p n c vs :=
  ⟨h.rd, fun h0 => by obtain ⟨b, o, cur, e1, h1, h2, h3⟩ := h.own h0; exact ⟨b, o, cur, e1, by omega, h2, h3⟩⟩

/-- All but the first one. -/
theorem OwG.tail {e : TypeId} {w : World} {B n c : Nat} {p : Option Addr} {vs : List Value} (h : OwG e w B p n c vs) (h0 : 0 < n) : ∃ b o, p = some ⟨b, o, none⟩ ∧ OwG e w B (if c = 1 then some ⟨b, o, none⟩ else some ⟨b, o + 1, none⟩) (n - 1) (c - 1) (vs.drop 1) := by
  obtain ⟨b, o, e1, hR⟩ := h.rd.tail h0
  have hcap := h.rd.cap
  refine ⟨b, o, e1, hR, fun h1 => ?_⟩
  obtain ⟨b2, o2, cur, e2, hB, hA, hl⟩ := h.own (by omega)
  rw [e1] at e2
  cases e2
  rw [if_neg (by omega)]
  exact ⟨b, o + 1, cur, rfl, hB, hA, by omega⟩

/-- A reel's value, all its memory its own from block B on. -/
def ReV (w : World) (B : Nat) (v : Value) (r : PR) : Prop := ∃ pb nb cb pr cr vs, v = .agg #[.int .i64 r.gen, .slice pb nb cb, .slice pr r.recs.length cr] ∧ Ow .u8 5 w B pb nb cb r.base ∧ OwG 40 w B pr r.recs.length cr vs ∧ Slo 5 w B vs r.recs

theorem Sls.tail {w : World} {vs : List Value} {xss : List (List Int)} (h : Sls w vs xss) : Sls w (vs.drop 1) (xss.drop 1) :=
  ⟨by rw [List.length_drop, List.length_drop, h.1], fun i hi => by
    rw [List.length_drop] at hi
    obtain ⟨q, m, d, e, hr⟩ := h.2 (1 + i) (by omega)
    refine ⟨q, m, d, ?_, ?_⟩
    · rw [← e, List.getD_eq_getElem?_getD, List.getD_eq_getElem?_getD, List.getElem?_drop]
    · rw [List.getD_eq_getElem?_getD, List.getElem?_drop, ← List.getD_eq_getElem?_getD]
      exact hr⟩

theorem Slo.tail {u : TypeId} {w : World} {B : Nat} {vs : List Value} {xss : List (List Int)} (h : Slo u w B vs xss) : Slo u w B (vs.drop 1) (xss.drop 1) :=
  ⟨by rw [List.length_drop, List.length_drop, h.1], fun i hi => by
    rw [List.length_drop] at hi
    obtain ⟨q, m, d, e, hr⟩ := h.2 (1 + i) (by omega)
    refine ⟨q, m, d, ?_, ?_⟩
    · rw [← e, List.getD_eq_getElem?_getD, List.getD_eq_getElem?_getD, List.getElem?_drop]
    · rw [List.getD_eq_getElem?_getD, List.getElem?_drop, ← List.getD_eq_getElem?_getD]
      exact hr⟩

theorem Slo.lower {u : TypeId} {w : World} {B B' : Nat} {vs : List Value} {xss : List (List Int)} (h : Slo u w B vs xss) (hB : B' ≤ B) : Slo u w B' vs xss :=
  ⟨h.1, fun i hi => by
    obtain ⟨q, m, d, e, hr⟩ := h.2 i hi
    exact ⟨q, m, d, e, hr.lower hB⟩⟩

theorem Ex.grown {w w' : World} {g : Nat} (h : Ex g w w') : w.grownBy w' (some g) := ⟨h.os, h.tape, h.output, h.size, fun k hk hne => h.block k hk (fun e => hne (by rw [e]))⟩

theorem Slo.exn {u : TypeId} {w w' : World} {B g : Nat} {vs : List Value} {xss : List (List Int)} (h : Slo u w B vs xss) (he : Ex g w w') (hB : g < B) : Slo u w' B vs xss :=
  ⟨h.1, fun i hi => by
    obtain ⟨q, m, d, e, hr⟩ := h.2 i hi
    exact ⟨q, m, d, e, hr.kept he.grown hB⟩⟩

theorem allR_by (xs : List Int) (hx : By xs) : ∀ i, i < (allR xs).1.length → By ((allR xs).1.getD i []) ∧ ((allR xs).1.getD i []).length ≤ 8192 := by
  have key : ∀ f (ys : List Int), By ys → ∀ i, i < (allF f ys).1.length → By ((allF f ys).1.getD i []) ∧ ((allF f ys).1.getD i []).length ≤ 8192 := by
    intro f
    induction f with
    | zero => intro ys _ i hi; exact absurd hi (Nat.not_lt_zero _)
    | succ f ih =>
      intro ys hy i hi
      unfold allF at hi ⊢
      by_cases h : (openR ys).2.2 = 0
      · rw [if_pos h] at hi ⊢
        obtain ⟨_, _, h3, h4⟩ := openR_room hy h
        cases i with
        | zero => exact ⟨h3, h4⟩
        | succ i => exact ih _ (fun x hx => hy x (List.mem_of_mem_drop hx)) i (by simpa using hi)
      · rw [if_neg h] at hi
        exact absurd hi (Nat.not_lt_zero _)
  exact key _ xs hx

theorem allR_few (xs : List Int) (hx : By xs) : (allR xs).1.length ≤ xs.length := by
  have key : ∀ f (ys : List Int), By ys → (allF f ys).1.length ≤ ys.length := by
    intro f
    induction f with
    | zero => intro ys _; exact Nat.zero_le _
    | succ f ih =>
      intro ys hy
      unfold allF
      by_cases h : (openR ys).2.2 = 0
      · rw [if_pos h]
        obtain ⟨h1, h2, _, _⟩ := openR_room hy h
        have := ih (ys.drop (openR ys).2.1) (fun x hx => hy x (List.mem_of_mem_drop hx))
        rw [List.length_drop] at this
        show ((openR ys).1 :: (allF f (ys.drop (openR ys).2.1)).1).length ≤ _
        rw [List.length_cons]
        omega
      · rw [if_neg h]
        exact Nat.zero_le _
  exact key _ xs hx

end Go.Proofs.YtpjhadaiodnnaaaGreat.M
end

section
namespace Go.Proofs.YtpjhadaiodnnaaaGreat.M
open Go.ChangeShapes Go.WideShapes Go.ChangeAt Go.RowKit

theorem sizeR : (Tryz.prog.info? 79).map (·.size) = some 3 := by kernel_rfl

theorem results_reel {fn : Func} {p u : Tmp} (h : fn.results = #[.cell p 79, .tmp u]) (tmps : Array Value) (w : World) (g : Nat) (x y z : Value) (hp : tmps.getD p undef = .pointer (some ⟨g, 0, none⟩)) (hg : At 79 w g #[x, y, z]) :
    (results fn tmps).run Tryz.prog w = .ok (.tuple #[.agg #[x, y, z], tmps.getD u undef]) w := by
  have hp' : tmps[p]?.getD undef = .pointer (some ⟨g, 0, none⟩) := by simpa using hp
  have hl := run_loadVar_mid (P := Tryz.prog) w g 0 79 [x, y, z] _ (fun j v hj => by
    rw [Nat.zero_add]
    match j, hj with
    | 0, hj => cases hj; exact hg.cell 0
    | 1, hj => cases hj; exact hg.cell 1
    | 2, hj => cases hj; exact hg.cell 2) Tryz.underlying79 rfl sizeR
  simp [results, h, hp', asAddr, hl]

theorem At.put3 {t : TypeId} {w : World} {g : Nat} {a b c : Value} (h : At t w g #[a, b, c]) (x y z : Value) : At t (((w.setCell ⟨g, 0, none⟩ x).setCell ⟨g, 1, none⟩ y).setCell ⟨g, 2, none⟩ z) g #[x, y, z] := by
  have h1 := heap_setCell_same w g 0 _ _ x h
  have h2 := heap_setCell_same _ g 1 _ _ y h1
  exact heap_setCell_same _ g 2 _ _ z h2

/-- Bytes lie in no reel's block. -/
theorem Rd.offR {w : World} {t : TypeId} {g n c : Nat} {p : Option Addr} {xs : List Int} {a : Int} {p1 p2 : Option Addr} {n1 c1 n2 c2 : Nat} (hr : Rd .u8 w p n c xs) (hg : At t w g #[.int .i64 a, .slice p1 n1 c1, .slice p2 n2 c2]) : ∀ x, p = some x → 0 < n → x.block ≠ g := fun x e hn eg => by
  obtain ⟨b, o, e2, hc⟩ := hr.cells hn
  rw [e] at e2
  cases e2
  have eg' : b = g := eg
  subst eg'
  have h0 := hc 0 hn
  rw [Nat.add_zero] at h0
  have h1 := hg.cell o
  rw [h0] at h1
  match o, h1 with
  | 0, h1 => cases h1
  | 1, h1 => cases h1
  | 2, h1 => cases h1
  | k + 3, h1 => exact absurd h1.symm (by rw [Array.getElem?_eq_none (by simp)]; intro h; cases h)

theorem Rd.exn {w w' : World} {g n c : Nat} {p : Option Addr} {xs : List Int} (hr : Rd .u8 w p n c xs) (he : Ex g w w') (hne : ∀ a, p = some a → 0 < n → a.block ≠ g) : Rd .u8 w' p n c xs :=
  ⟨hr.len, hr.cap, hr.nil, fun hn => by
    obtain ⟨b, o, e, hc⟩ := hr.cells hn
    refine ⟨b, o, e, fun i hi => ?_⟩
    have h1 := hc i hi
    have hlt : b < w.heap.size := World.block_lt_of_cell? _ _ h1
    rw [← h1]
    exact World.cell?_of_block (a := ⟨b, o + i, none⟩) (he.block b hlt (hne _ e hn))⟩

theorem RdV.exn {w w' : World} {g n c : Nat} {p : Option Addr} {vs : List Value} (hr : RdV w p n c vs) (he : Ex g w w') (hne : ∀ a, p = some a → 0 < n → a.block ≠ g) : RdV w' p n c vs :=
  ⟨hr.len, hr.cap, hr.nil, fun hn => by
    obtain ⟨b, o, e, hc⟩ := hr.cells hn
    refine ⟨b, o, e, fun i hi => ?_⟩
    have h1 := hc i hi
    have hlt : b < w.heap.size := World.block_lt_of_cell? _ _ h1
    rw [← h1]
    exact World.cell?_of_block (a := ⟨b, o + i, none⟩) (he.block b hlt (hne _ e hn))⟩

theorem OwG.exn {e : TypeId} {w w' : World} {B g n c : Nat} {p : Option Addr} {vs : List Value} (h : OwG e w B p n c vs) (he : Ex g w w') (hne : ∀ a, p = some a → 0 < c → a.block ≠ g) : OwG e w' B p n c vs :=
  ⟨h.rd.exn he (fun a ea h0 => hne a ea (Nat.lt_of_lt_of_le h0 h.rd.cap)), fun h0 => by
    obtain ⟨b, o, cur, e1, h1, h2, h3⟩ := h.own h0
    exact ⟨b, o, cur, e1, h1, (he.block b h2.lt (hne _ e1 h0)).trans h2, h3⟩⟩

theorem Sls.exR {w w' : World} {t : TypeId} {g : Nat} {vs : List Value} {xss : List (List Int)} {a : Int} {p1 p2 : Option Addr} {n1 c1 n2 c2 : Nat} (h : Sls w vs xss) (hg : At t w g #[.int .i64 a, .slice p1 n1 c1, .slice p2 n2 c2]) (he : Ex g w w') : Sls w' vs xss :=
  ⟨h.1, fun i hi => by
    obtain ⟨q, m, d, e, hr⟩ := h.2 i hi
    exact ⟨q, m, d, e, hr.exn he (hr.offR hg)⟩⟩

set_option maxRecDepth 20000 in
set_option maxHeartbeats 4000000 in
theorem load_any (B : Nat) (p : Option Addr) (n c : Nat) (xs : List Int) (w : World) (ho : Ow .u8 5 w B p n c xs) (hx : By xs) (hn : n ≤ 1099511627776) :
    Calls Tryz.prog 32 #[.slice p n c] w fun e w' => (∃ v, e = .returned (.tuple #[v, .bool (ldR xs).2]) ∧ ReV w' w.heap.size v (ldR xs).1) ∧ Below w.heap.size w w' := by
  have hba := below_alloc w (.cells #[.int .i64 0, .slice none 0 0, .slice none 0 0] 79)
  have hG := At.new 79 w #[.int .i64 0, .slice none 0 0, .slice none 0 0]
  have hA := all_own B p n c xs _ (ho.below hba) hx hn
  have hlx := ho.len
  obtain ⟨gr, hgr⟩ : ∃ z, z = w.heap.size := ⟨_, rfl⟩
  go_enter Tryz.func32, Tryz.ntmps32
  go_wp2_with fail
  refine hA.mono ?_
  rintro e W1 ⟨p', k', c', vs, rfl, hO, hS, hb1⟩
  have hG1 := hG.below hb1
  have hbw1 := hba.trans (hb1.mono hba.size)
  rw [← hgr] at hG1 ⊢
  clear hA hG hba hb1
  have hk' : k' = (allR xs).1.length := by rw [← hO.len]; exact hS.1
  by_cases hz : (allR xs).1 = []
  · have hk0 : k' = 0 := by rw [hk', hz]; rfl
    subst hk0
    have HL : Hid (ldR xs = (.z0, false)) := by unfold Hid ldR; rw [if_pos hz]
    obtain ⟨z0, z1, z2⟩ := hG1.three
    have f0 := hG1.free 0
    have f1 := hG1.free 1
    have f2 := hG1.free 2
    have hG2 := At.put3 hG1 (.int .i64 0) (.slice none 0 0) (.slice none 0 0)
    have hb2 : Below w.heap.size w (((W1.setCell ⟨gr, 0, none⟩ (.int .i64 0)).setCell ⟨gr, 1, none⟩ (.slice none 0 0)).setCell ⟨gr, 2, none⟩ (.slice none 0 0)) := by
      rw [hgr]
      exact ((hbw1.setCell (p := ⟨w.heap.size, 0, none⟩) (Nat.le_refl _) _).setCell (p := ⟨w.heap.size, 1, none⟩) (Nat.le_refl _) _).setCell (p := ⟨w.heap.size, 2, none⟩) (Nat.le_refl _) _
    clear hz hk'
    rw [hgr] at hG2
    rw [hgr] at z0 z1 z2 f0 f1 f2
    clear hG1
    subst hgr
    go_wp2_with fail
    refine bodyPost_ret (results_reel (p := 2) (u := 3) rfl _ _ w.heap.size _ _ _ rfl hG2) rfl ⟨⟨_, by rw [HL.out]; rfl, ?_⟩, hb2⟩
    rw [HL.out]
    exact ⟨none, 0, 0, none, 0, [], rfl, Ow.empty _ _ _ _ _, OwG.empty _ _ _, Slo.nil _ _ _⟩
  · have hkp : 0 < k' := by
      rcases Nat.eq_zero_or_pos k' with h | h
      · exact absurd (List.eq_nil_of_length_eq_zero (by rw [← hk']; exact h)) hz
      · exact h
    have hk0 : ((k' : Int) == 0) = false := by rw [beq_eq_false_iff_ne]; omega
    have HK : Hid (k' = (allR xs).1.length) := hk'
    have hkb : k' ≤ 1099511627776 := by have := allR_few xs hx; omega
    have HGR : Hid (gr = w.heap.size) := hgr
    have hRV := hO.rd
    obtain ⟨bv, ov, hpv, hcv⟩ := hRV.cells hkp
    subst hpv
    have hcv0 := hcv 0 hkp
    rw [Nat.add_zero] at hcv0
    obtain ⟨q0, m0, d0, hq0, ho0⟩ := hS.2 0 (by rw [hO.len]; exact hkp)
    rw [hq0] at hcv0
    obtain ⟨hby0, hl0⟩ := allR_by xs hx 0 (by rw [← hk']; exact hkp)
    obtain ⟨y, HY⟩ : ∃ z, Hid ((allR xs).1.getD 0 [] = z) := ⟨_, rfl⟩
    rw [HY.out] at ho0 hby0 hl0
    have hm0 : m0 ≤ 8192 := by rw [← ho0.len]; exact hl0
    have gR := read_any q0 m0 d0 y W1 ho0.rd hby0 (by omega)
    clear hcv hk' hgr
    go_wp2_with fail
    refine gR.mono ?_
    rintro e W2 ⟨g, pg, cg, rfl, hRg, hgB, hsz2, hb2⟩
    have hG2 := hG1.below hb2
    have hbw2 := hbw1.trans (hb2.mono hbw1.size)
    have hgr2 : gr < g := Nat.lt_of_lt_of_le hG1.lt hgB
    have gW1 := within_1 g (y, 0) W2 ⟨pg, m0, cg, hRg⟩
    clear gR hcv0
    have hwg : w.heap.size ≤ g := Nat.le_trans hbw1.size hgB
    go_wp2_with fail
    refine gW1.mono ?_
    rintro e W3 ⟨rfl, hR3, hE3⟩
    have hb3 : Below g W2 W3 := hE3.below (Nat.le_refl _) (by omega)
    have gW0 := within_0 g (wL 1 (y, 0)).2 W3 hR3
    have hs3 := hE3.size
    obtain ⟨v1, HV1⟩ : ∃ z, Hid ((wL 1 (y, 0)).1 = z) := ⟨_, rfl⟩
    rw [HV1.out]
    clear gW1 hE3
    go_wp2_with fail
    refine gW0.mono ?_
    rintro e W4 ⟨rfl, hR4, hE4⟩
    have hb4 : Below g W2 W4 := hb3.trans (hE4.below (Nat.le_refl _) (by omega))
    have gB := bytes_any 8176 (by decide) g (wL 0 (wL 1 (y, 0)).2).2 W4 hR4
    have hs4 := hE4.size
    obtain ⟨v2, HV2⟩ : ∃ z, Hid ((wL 0 (wL 1 (y, 0)).2).1 = z) := ⟨_, rfl⟩
    rw [HV2.out]
    clear gW0 hE4 hb3
    go_wp2_with fail
    refine gB.mono ?_
    rintro e W5 ⟨⟨pb, nb, cb, rfl, hrb⟩, hR5, hb5'⟩
    have hb5 : Below g W2 W5 := hb4.trans hb5'
    have gE := end_any g (bR 8176 (wL 0 (wL 1 (y, 0)).2).2).2 W5 hR5
    obtain ⟨v3, HV3⟩ : ∃ z, Hid (endR (bR 8176 (wL 0 (wL 1 (y, 0)).2).2).2 = z) := ⟨_, rfl⟩
    rw [HV3.out] at gE
    have hs5 := hb5'.size
    clear gB hb4 hb5'
    have hG5 : At 79 W5 gr #[.int .i64 0, .slice none 0 0, .slice none 0 0] := (hb5.block gr hgr2).trans hG2
    have hbw5 : Below w.heap.size w W5 := hbw2.trans (hb5.mono hwg)
    go_wp2_with fail
    refine gE.mono ?_
    rintro e W6 ⟨rfl, hw6⟩
    subst hw6
    clear gE
    have HLbad : ¬ (v3 = 0 ∧ v2 ≤ (k' : Int) - 1) → Hid (ldR xs = (.z0, false)) := fun h => by
      show _ = _
      unfold ldR
      rw [if_neg hz, HY.out, HV3.out, HV2.out, ← HK.out, if_neg h]
    have HLgood : (v3 = 0 ∧ v2 ≤ (k' : Int) - 1) → Hid (ldR xs = (⟨v1, (bR 8176 (wL 0 (wL 1 (y, 0)).2).2).1, (allR xs).1.drop 1⟩, decide ((allR xs).2 = xs.length))) := fun h => by
      show _ = _
      unfold ldR
      rw [if_neg hz, HY.out, HV3.out, HV2.out, HV1.out, ← HK.out, if_pos h]
    obtain ⟨z0, z1, z2⟩ := hG5.three
    have f0 := hG5.free 0
    have f1 := hG5.free 1
    have f2 := hG5.free 2
    have hgrw : w.heap.size ≤ gr := by rw [HGR.out]; exact Nat.le_refl _
    have hput : ∀ x y z : Value, Below w.heap.size w (((W6.setCell ⟨gr, 0, none⟩ x).setCell ⟨gr, 1, none⟩ y).setCell ⟨gr, 2, none⟩ z) := fun x y z => ((hbw5.setCell (p := ⟨gr, 0, none⟩) hgrw _).setCell (p := ⟨gr, 1, none⟩) hgrw _).setCell (p := ⟨gr, 2, none⟩) hgrw _
    by_cases hv3 : v3 = 0
    · by_cases hv2 : v2 ≤ (k' : Int) - 1
      · have HL := HLgood ⟨hv3, hv2⟩
        have hd2 : decide ((k' : Int) - 1 < v2) = false := decide_eq_false (by omega)
        have hwk : IntKind.i64.wrap ((k' : Int) - 1) = (k' : Int) - 1 := by rw [IntKind.wrap_i64]; have := hRV.cap; have := hkb; omega
        subst hv3
        clear HLbad HLgood
        have hW16 : Below W1.heap.size W1 W6 := hb2.trans (hb5.mono hgB)
        have hOG6 := hO.g.below hW16
        have hS6 := hS.below hW16
        have h2gr : (w.alloc (.cells #[.int .i64 0, .slice none 0 0, .slice none 0 0] 79)).heap.size = gr + 1 := by rw [HGR.out]; simp
        have hgrs : gr < W4.heap.size := by have := hs3; have := hs4; omega
        have hbg : ∀ a, some (⟨bv, ov, none⟩ : Addr) = some a → 0 < k' → a.block ≠ gr := fun a e _ => by
          cases e
          rcases hO.own with ⟨h1, _⟩ | h1
          · omega
          · have := (World.ownsRow.lt h1 bv rfl).1
            have h2 : (w.alloc (.cells #[.int .i64 0, .slice none 0 0, .slice none 0 0] 79)).heap.size = gr + 1 := by rw [HGR.out]; simp
            show bv ≠ gr
            omega
        obtain ⟨b9, o9, e9, hT⟩ := hOG6.tail hkp
        cases e9
        have hTS := hS6.tail
        have hbq : Hid (((((allR xs).2 : Nat) : Int) == (n : Int)) = decide ((allR xs).2 = xs.length)) := by
          show _ = _
          rw [hlx]
          by_cases h : (allR xs).2 = n
          · rw [decide_eq_true h, h]; simp
          · rw [decide_eq_false h, beq_eq_false_iff_ne]; omega
        have hlen9 : Hid (k' - 1 = ((allR xs).1.drop 1).length) := by
          show _ = _
          rw [List.length_drop, ← HK.out]
        by_cases hc1 : c' = 1
        · rw [if_pos hc1] at hT
          subst hc1
          have hG9 := At.put3 hG5 (.int .i64 v1) (.slice pb nb cb) (.slice (some ⟨bv, ov, none⟩) (k' - 1) 0)
          have hb9 := hput (.int .i64 v1) (.slice pb nb cb) (.slice (some ⟨bv, ov, none⟩) (k' - 1) 0)
          have hEx := (((Ex.refl gr W6).setCell 0 (.int .i64 v1)).setCell 1 (.slice pb nb cb)).setCell 2 (.slice (some ⟨bv, ov, none⟩) (k' - 1) 0)
          have hrb9 := (hrb.kept hEx.grown hgrs).lower (show w.heap.size ≤ W4.heap.size by omega)
          have hT9 := hT.exn hEx (fun a e h => hbg a e hkp)
          have hS9 := (hTS.exn hEx (by omega)).lower (show w.heap.size ≤ _ by rw [h2gr]; omega)
          clear hG5 hput hT hTS hrb hOG6 hS6 hRV hS hO
          go_wp2_with fail
          refine bodyPost_ret (results_reel (p := 2) (u := 3) rfl _ _ gr _ _ _ rfl hG9) rfl ⟨⟨.agg #[.int .i64 v1, .slice pb nb cb, .slice (some ⟨bv, ov, none⟩) (k' - 1) 0], ?_, ?_⟩, hb9⟩
          · rw [HL.out]
            show Ending.returned (.tuple #[_, .bool _]) = _
            rw [hbq.out]
          · rw [HL.out]
            refine ⟨pb, nb, cb, some ⟨bv, ov, none⟩, 0, vs.drop 1, ?_, hrb9, ?_, hS9⟩
            · show Value.agg #[_, _, _] = Value.agg #[_, _, _]
              rw [← hlen9.out]
            · show OwG _ _ _ _ ((allR xs).1.drop 1).length _ _
              rw [← hlen9.out]
              exact hT9.lowerB (by rw [h2gr]; omega)
        · rw [if_neg hc1] at hT
          have hG9 := At.put3 hG5 (.int .i64 v1) (.slice pb nb cb) (.slice (some ⟨bv, ov + 1, none⟩) (k' - 1) (c' - 1))
          have hb9 := hput (.int .i64 v1) (.slice pb nb cb) (.slice (some ⟨bv, ov + 1, none⟩) (k' - 1) (c' - 1))
          have hEx := (((Ex.refl gr W6).setCell 0 (.int .i64 v1)).setCell 1 (.slice pb nb cb)).setCell 2 (.slice (some ⟨bv, ov + 1, none⟩) (k' - 1) (c' - 1))
          have hrb9 := (hrb.kept hEx.grown hgrs).lower (show w.heap.size ≤ W4.heap.size by omega)
          have hT9 := hT.exn hEx (fun a e h => by cases e; exact hbg ⟨bv, ov, none⟩ rfl hkp)
          have hS9 := (hTS.exn hEx (by omega)).lower (show w.heap.size ≤ _ by rw [h2gr]; omega)
          have hcap9 : 1 ≤ c' := by have := hRV.cap; omega
          clear hG5 hput hT hTS hrb hOG6 hS6 hRV hS hO
          go_wp2_with fail
          refine bodyPost_ret (results_reel (p := 2) (u := 3) rfl _ _ gr _ _ _ rfl hG9) rfl ⟨⟨.agg #[.int .i64 v1, .slice pb nb cb, .slice (some ⟨bv, ov + 1, none⟩) (k' - 1) (c' - 1)], ?_, ?_⟩, hb9⟩
          · rw [HL.out]
            show Ending.returned (.tuple #[_, .bool _]) = _
            rw [hbq.out]
          · rw [HL.out]
            refine ⟨pb, nb, cb, some ⟨bv, ov + 1, none⟩, c' - 1, vs.drop 1, ?_, hrb9, ?_, hS9⟩
            · show Value.agg #[_, _, _] = Value.agg #[_, _, _]
              rw [← hlen9.out]
            · show OwG _ _ _ _ ((allR xs).1.drop 1).length _ _
              rw [← hlen9.out]
              exact hT9.lowerB (by rw [h2gr]; omega)
      · have HL := HLbad (fun h => hv2 h.2)
        have hd2 : decide ((k' : Int) - 1 < v2) = true := decide_eq_true (by omega)
        have hwk : IntKind.i64.wrap ((k' : Int) - 1) = (k' : Int) - 1 := by rw [IntKind.wrap_i64]; have := hRV.cap; have := hkb; omega
        have hG9 := At.put3 hG5 (.int .i64 0) (.slice none 0 0) (.slice none 0 0)
        have hb9 := hput (.int .i64 0) (.slice none 0 0) (.slice none 0 0)
        subst hv3
        clear HLbad HLgood hG5 hput hv2
        go_wp2_with fail
        refine bodyPost_ret (results_reel (p := 2) (u := 3) rfl _ _ gr _ _ _ rfl hG9) rfl ⟨⟨_, by rw [HL.out]; rfl, ?_⟩, hb9⟩
        rw [HL.out]
        exact ⟨none, 0, 0, none, 0, [], rfl, Ow.empty _ _ _ _ _, OwG.empty _ _ _, Slo.nil _ _ _⟩
    · have HL := HLbad (fun h => hv3 h.1)
      have hd3 : (v3 != 0) = true := by simpa using hv3
      have hG9 := At.put3 hG5 (.int .i64 0) (.slice none 0 0) (.slice none 0 0)
      have hb9 := hput (.int .i64 0) (.slice none 0 0) (.slice none 0 0)
      clear HLbad HLgood hG5 hput hv3
      go_wp2_with fail
      refine bodyPost_ret (results_reel (p := 2) (u := 3) rfl _ _ gr _ _ _ rfl hG9) rfl ⟨⟨_, by rw [HL.out]; rfl, ?_⟩, hb9⟩
      rw [HL.out]
      exact ⟨none, 0, 0, none, 0, [], rfl, Ow.empty _ _ _ _ _, OwG.empty _ _ _, Slo.nil _ _ _⟩

end Go.Proofs.YtpjhadaiodnnaaaGreat.M
end

section
namespace Go.Proofs.YtpjhadaiodnnaaaGreat.M
open Go.RowKit

/-- A condition on worlds that stays when only new memory is made. -/
def Stays (S : World → Prop) : Prop := ∀ w w', S w → Below w.heap.size w w' → S w'

theorem Stays.and {S T : World → Prop} (h : Stays S) (k : Stays T) : Stays fun w => S w ∧ T w := fun w w' hS hb => ⟨h w w' hS.1 hb, k w w' hS.2 hb⟩

section
variable {P : Program} {ops : Array Oper} {Q : Exit → Act → World → Prop} {md : Region.Mode} {S0 : World → Prop}

/-- Put into its slot, both values come to the same frame. -/
def Alike (dst : Option Tmp) (n : Nat) (u v : Value) : Prop := ∀ b : Act, b.tmps.size = n → b.put dst u = b.put dst v

theorem Alike.of_put {a : Act} {dst : Option Tmp} {u v : Value} (h : a.put dst u = a.put dst v) : Alike dst a.tmps.size u v := by
  intro b hb
  cases dst with
  | none => rfl
  | some d =>
    by_cases hd : d < a.tmps.size
    · have h1 : (a.put (some d) u).tmps[d]? = (a.put (some d) v).tmps[d]? := by rw [h]
      simp only [Act.put, Array.getElem?_setIfInBounds_self, hd, if_true] at h1
      rw [Option.some.inj h1]
    · have h2 : ∀ x, b.tmps.setIfInBounds d x = b.tmps := fun x => by
        apply Array.ext_getElem?
        intro i
        by_cases hdi : d = i
        · rw [← hdi, Array.getElem?_eq_none (by rw [Array.size_setIfInBounds, hb]; exact Nat.le_of_not_lt hd), Array.getElem?_eq_none (by rw [hb]; exact Nat.le_of_not_lt hd)]
        · rw [Array.getElem?_setIfInBounds_ne hdi]
      show ({ b with tmps := _ } : Act) = { b with tmps := _ }
      rw [h2, h2]

theorem put_size (a : Act) (dst : Option Tmp) (v : Value) : (a.put dst v).tmps.size = a.tmps.size := by
  cases dst with
  | none => rfl
  | some d => simp [Act.put]

/-- What an operation comes to: one value, and nothing that stood has turned. -/
def GivesR (P : Program) (dst : Option Tmp) (n : Nat) (v : Value) (w : World) : Result Next → Prop
  | .ok (.value u) w' => Alike dst n u v ∧ Below w.heap.size w w'
  | .ok .skip w' => Alike dst n undef v ∧ Below w.heap.size w w'
  | .ok (.row row args) w' => Rows P row args w' fun u w'' => Alike dst n u v ∧ Below w.heap.size w w''
  | .ok (.enter f args) w' => Calls P f args w' fun e w'' => ∃ u, e = .returned u ∧ Alike dst n u v ∧ Below w.heap.size w w''
  | _ => False

/-- In every world that meets the condition operation 'o' gives 'v'. -/
def Gives (P : Program) (ops : Array Oper) (S0 : World → Prop) (o : Oper) (v : Value) (a : Act) : Prop :=
  (Region.wanted o (yielded ops a.tmps) = true ∧ ∀ w, S0 w → GivesR P o.dst a.tmps.size v w ((execOp a.eval o).run P w)) ∨
  (Region.wanted o (yielded ops a.tmps) = false ∧ v = undef)

/-- As the walk shows it. -/
theorem Gives.of_wp {o : Oper} {v : Value} {a : Act} (hw : Region.wanted o (yielded ops a.tmps) = true)
    (h : ∀ w, S0 w → ∀ K : Act → World → Prop, Shut (∀ a' w', a' = a.put o.dst v → Below w.heap.size w w' → K a' w') → Oper.wp P o a w K (fun _ _ _ => False)) : Gives P ops S0 o v a := by
  refine Or.inl ⟨hw, fun w hS => ?_⟩
  have hk := h w hS (fun a' w' => a' = a.put o.dst v ∧ Below w.heap.size w w') (fun a' w' h1 h2 => ⟨h1, h2⟩)
  unfold Oper.wp at hk
  generalize (execOp a.eval o).run P w = r at hk
  cases r with
  | ok n w' =>
    cases n <;> simp only [Oper.upon] at hk
    case value u => exact ⟨Alike.of_put hk.1, hk.2⟩
    case enter f args =>
      refine Calls.mono hk fun e w'' he => ?_
      cases e with
      | returned u => exact ⟨u, rfl, Alike.of_put he.1, he.2⟩
      | panicked c => exact he.elim
      | outgrown => obtain ⟨_, _, h⟩ := he; exact h.elim
    case skip => exact ⟨Alike.of_put hk.1, hk.2⟩
    case defer d =>
      have h1 := congrArg (fun b : Act => b.defers.length) hk.1
      have h2 : ∀ (b : Act) (x : Value), (b.put o.dst x).defers = b.defers := fun b x => by cases o.dst <;> rfl
      simp only [h2, List.length_cons] at h1
      omega
    case row row args => exact Rows.mono hk fun u w'' he => ⟨Alike.of_put he.1, he.2⟩
  | halt x w' => cases x <;> simp only [Oper.upon] at hk

/-- What gives a value in every world does so as the walk sees it. -/
theorem Gives.wpOp {i : Nat} {o : Oper} {v : Value} {a : Act} (hi : ops[i]? = some o) (hy : Gives P ops S0 o v a)
    {K : Act → World → Prop} {w : World} (hS : S0 w) (h : ∀ w', Below w.heap.size w w' → K (a.put o.dst v) w') : Go.wpOp P ops Q i K a w := by
  unfold Go.wpOp
  simp only [hi]
  rcases hy with ⟨hw, hv⟩ | ⟨hw, rfl⟩
  · simp only [hw, if_true]
    refine Or.inl ?_
    have hr := hv w hS
    unfold Oper.wp
    generalize (execOp a.eval o).run P w = r at hr
    cases r with
    | ok n w' =>
      cases n <;> simp only [GivesR] at hr <;> simp only [Oper.upon]
      case value u => rw [hr.1 a rfl]; exact h _ hr.2
      case skip => rw [hr.1 a rfl]; exact h _ hr.2
      case row row args => exact Rows.mono hr fun u w'' he => by rw [he.1 a rfl]; exact h _ he.2
      case enter f args =>
        refine Calls.mono hr fun e w'' he => ?_
        obtain ⟨u, rfl, h1, h2⟩ := he
        show K (a.put o.dst u) w''
        rw [h1 a rfl]
        exact h _ h2
    | halt x w' => exact hr.elim
  · simp only [hw, Bool.false_eq_true, if_false]
    exact h _ (Below.refl _ _)

theorem Gives.of_same {o : Oper} {v : Value} {a a' : Act} (hy : Gives P ops S0 o v a) (he : execOp a'.eval o = execOp a.eval o)
    (hw : Region.wanted o (yielded ops a'.tmps) = Region.wanted o (yielded ops a.tmps)) (hs : a'.tmps.size = a.tmps.size) : Gives P ops S0 o v a' := by
  unfold Gives at *
  rw [he, hw, hs]
  exact hy

/-- An operation that is apart from the one that gives goes the same way ahead of it and behind it. -/
theorem Gives.apart {j : Nat} {oi oj : Oper} {v : Value} (hj : ops[j]? = some oj) (hap : oi.apart ops oj = true)
    (hsi : ∀ cs b, oi.op ≠ .select cs b) (hsj : ∀ cs b, oj.op ≠ .select cs b)
    (hQ : ∀ c a w, Q (.panic c) (a.put oi.dst v) w → Q (.panic c) a w) {K : Act → World → Prop} {a : Act} {w : World}
    (hy : Gives P ops S0 oi v a) (h : Go.wpOp P ops Q j K (a.put oi.dst v) w) :
    Go.wpOp P ops Q j (fun a' w' => Gives P ops S0 oi v a' ∧ K (a'.put oi.dst v) w') a w := by
  obtain ⟨h1, h2, h3⟩ := Oper.apart_spec hap
  have keep : ∀ (a : Act), Gives P ops S0 oi v a → ∀ u, Gives P ops S0 oi v (a.put oj.dst u) := fun a hy u =>
    hy.of_same (execOp_put oi hsi a oj.dst u h3) (wanted_put oi a oj.dst u h3) (put_size _ _ _)
  have keepD : ∀ d, Gives P ops S0 oi v { a with defers := d :: a.defers } := fun d => hy.of_same rfl rfl rfl
  unfold Go.wpOp at *
  simp only [hj] at *
  rw [wanted_put oj a oi.dst v h1] at h
  by_cases hw : Region.wanted oj (yielded ops a.tmps) = true
  · rw [if_pos hw] at h ⊢
    rcases h with h | ⟨hasks, hlets⟩
    case inr => exact .inr ⟨by unfold Oper.asks at *; rw [execOp_put oj hsj a oi.dst v h1] at hasks; exact hasks, hlets⟩
    refine .inl ?_
    unfold Oper.wp at *
    rw [execOp_put oj hsj a oi.dst v h1] at h
    generalize (execOp a.eval oj).run P w = r at *
    have swap : ∀ u, (a.put oi.dst v).put oj.dst u = (a.put oj.dst u).put oi.dst v := fun u => Act.put_comm a v u h2
    cases r with
    | ok n w' =>
      cases n <;> simp only [Oper.upon] at h ⊢
      case value u => rw [swap u] at h; exact ⟨keep a hy u, h⟩
      case skip => rw [swap undef] at h; exact ⟨keep a hy _, h⟩
      case defer d =>
        rw [Act.put_defers, Act.put_comm _ v undef h2] at h
        exact ⟨keep _ (keepD d) _, h⟩
      case enter f args =>
        refine Calls.mono h fun e w'' he => ?_
        cases e with
        | returned u => exact ⟨keep a hy u, by rw [← swap u]; exact he⟩
        | panicked c => exact hQ _ _ _ he
        | outgrown => exact he
      case row row args => exact Rows.mono h fun u w'' he => ⟨keep a hy u, by rw [← swap u]; exact he⟩
    | halt x w' =>
      cases x <;> simp only [Oper.upon] at h ⊢
      case panic u => exact hQ _ _ _ h
  · rw [if_neg hw] at h ⊢
    rw [Act.put_comm a v undef h2] at h
    exact ⟨keep a hy _, h⟩

/-- Number 'k' need not have come up ahead of number 'j'. -/
def loose (md : Region.Mode) (ops : Array Oper) (j k : Nat) : Bool :=
  j != k && ((ops[j]?).map fun o => o.after.all fun e => !Region.binds md e || e.on != k).getD true

/-- Somebody who leans on the condition may come up behind number 'j'. -/
def leans (md : Region.Mode) (ops : Array Oper) (need : List Nat) (j : Nat) : Bool := need.any (loose md ops j)

theorem leans_of {need : List Nat} {i j : Nat} {oj : Oper} (hn : need.contains i = true) (hj : ops[j]? = some oj) (hji : j ≠ i) (h : ∀ e ∈ oj.after, Region.binds md e = true → e.on ≠ i) : leans md ops need j = true := by
  unfold leans
  rw [List.any_eq_true]
  refine ⟨i, by simpa using hn, ?_⟩
  unfold loose
  rw [hj]
  simp only [Option.map_some, Option.getD_some, Bool.and_eq_true, bne_iff_ne, Array.all_eq_true_iff_forall_mem, Bool.or_eq_true, Bool.not_eq_true', ne_eq]
  refine ⟨hji, fun e he => ?_⟩
  by_cases hb : Region.binds md e = true
  · exact Or.inr (h e he hb)
  · exact Or.inl (by simpa using hb)

theorem no_lean {need : List Nat} {i : Nat} {R : Prop} (h : leans md ops need i = false) (k : leans md ops need i = true) : R := by
  rw [h] at k
  cases k

/-- Whatever order is drawn from here on, from every world that meets S: what is carried out leaves another such condition, which stays, and says at least S0 where somebody of 'need' may still come up. -/
def wpDet (P : Program) (md : Region.Mode) (ops : Array Oper) (Q : Exit → Act → World → Prop) (need : List Nat) (S0 : World → Prop) : Nat → Array Bool → Act → (World → Prop) → Prop
  | 0, listed, a, S => Region.ready md ops listed = [] ∧ ∀ w, S w → Q .normal a w
  | fuel + 1, listed, a, S =>
    (Region.ready md ops listed = [] → ∀ w, S w → Q .normal a w) ∧
    ∀ i ∈ Region.ready md ops listed, ∀ w, S w → Go.wpOp P ops Q i (fun a' w' => ∃ S' : World → Prop, Stays S' ∧ (leans md ops need i = true → ∀ x, S' x → S0 x) ∧ S' w' ∧ wpDet P md ops Q need S0 fuel (listed.setIfInBounds i true) a' S') a w

variable {need : List Nat}

theorem wpAny_of_det : ∀ (fuel : Nat) (listed : Array Bool) (a : Act) (S : World → Prop) (w : World), S w → wpDet P md ops Q need S0 fuel listed a S → wpAny P md ops Q fuel listed a w
  | 0, _, _, _, w, hS, h => ⟨h.1, h.2 w hS⟩
  | fuel + 1, _, _, _, w, hS, h => ⟨fun h0 => h.1 h0 w hS, fun i hi => wpOp_mono (fun a' w' h' => by
      obtain ⟨S', _, _, hS', h''⟩ := h'
      exact wpAny_of_det fuel _ a' S' w' hS' h'') (h.2 i hi w hS)⟩

theorem wpDet_first {i : Nat} {oi : Oper} {v : Value} {T : World → Prop} (hi : ops[i]? = some oi) (hsel : ∀ (j : Nat) (o : Oper) cs b, ops[j]? = some o → o.op ≠ .select cs b)
    (hQ : ∀ c a w, Q (.panic c) (a.put oi.dst v) w → Q (.panic c) a w)
    (hT : ∀ (j : Nat) (oj : Oper) (S' : World → Prop), ops[j]? = some oj → j ≠ i → (∀ e ∈ oj.after, Region.binds md e = true → e.on ≠ i) → (leans md ops need j = true → ∀ x, S' x → S0 x) → ∀ x, S' x → T x) :
    ∀ (fuel : Nat) (listed : Array Bool) (a : Act) (S : World → Prop), Stays S → (leans md ops need i = true → ∀ x, S x → S0 x) → (∀ x, S x → T x) →
      (∀ j oj, ops[j]? = some oj → j ≠ i → listed.getD j true = false → (∀ e ∈ oj.after, Region.binds md e = true → e.on ≠ i) → oi.apart ops oj = true) →
      i ∈ Region.ready md ops listed → Gives P ops T oi v a → (∀ (j : Nat) (oj : Oper) (S' : World → Prop), ops[j]? = some oj → j ≠ i → (∀ e ∈ oj.after, Region.binds md e = true → e.on ≠ i) → (leans md ops need j = true → ∀ x, S' x → S0 x) → leans md ops need i = true → ∀ x, S' x → S0 x) →
      wpDet P md ops Q need S0 fuel (listed.setIfInBounds i true) (a.put oi.dst v) S → wpDet P md ops Q need S0 (fuel + 1) listed a S := by
  intro fuel
  induction fuel with
  | zero =>
    intro listed a S hst hn hTS _ hr hy _ H
    refine ⟨fun h => (by rw [h] at hr; cases hr), fun j hj w hS => ?_⟩
    by_cases hji : j = i
    · subst hji
      exact hy.wpOp hi (hTS w hS) fun w' hb => ⟨S, hst, hn, hst w w' hS hb, H⟩
    · have := ready_mono hj hji
      rw [H.1] at this
      cases this
  | succ fuel ih =>
    intro listed a S hst hn hTS hfree hr hy hN H
    refine ⟨fun h => (by rw [h] at hr; cases hr), fun j hj w hS => ?_⟩
    by_cases hji : j = i
    · subst hji
      exact hy.wpOp hi (hTS w hS) fun w' hb => ⟨S, hst, hn, hst w w' hS hb, H⟩
    · have h1 := H.2 j (ready_mono hj hji) w hS
      obtain ⟨hjun, oj, hoj, hall⟩ := mem_ready.1 hj
      have hnot : ∀ e ∈ oj.after, Region.binds md e = true → e.on ≠ i := fun e he hb heq => by
        have h1 := hall e he hb
        have h0 := (mem_ready.1 hr).1
        rw [heq] at h1
        rcases Nat.lt_or_ge i listed.size with h' | h'
        · simp [h'] at h0 h1; rw [h0] at h1; cases h1
        · simp [Array.getElem?_eq_none h'] at h1
      have h2 := Gives.apart hoj (hfree j oj hoj hji hjun hnot) (fun cs b => hsel i oi cs b hi) (fun cs b => hsel j oj cs b hoj) hQ hy h1
      have hfree' : ∀ k ok, ops[k]? = some ok → k ≠ i → (listed.setIfInBounds j true).getD k true = false →
          (∀ e ∈ ok.after, Region.binds md e = true → e.on ≠ i) → oi.apart ops ok = true := fun k ok hk hki hun hno => by
        refine hfree k ok hk hki ?_ hno
        by_cases hjk : j = k
        · subst hjk; exact hjun
        · rw [getD_set_ne true hjk] at hun; exact hun
      refine wpOp_mono (fun a' w' h3 => ?_) h2
      obtain ⟨hg, S', hst', h0', hS', h4⟩ := h3
      refine ⟨S', hst', h0', hS', ih (listed.setIfInBounds j true) a' S' hst' (hN j oj S' hoj hji hnot h0') (hT j oj S' hoj hji hnot h0') hfree' (ready_mono hr (Ne.symm hji)) hg hN ?_⟩
      rw [Array.setIfInBounds_comm _ _ hji]
      exact h4

/-- Take number 'i' first: one of 'need'. -/
theorem wpDet_take {i : Nat} {oi : Oper} (v : Value) {fuel : Nat} {listed : Array Bool} {a : Act} {S : World → Prop} (hst : Stays S) (h0 : ∀ x, S x → S0 x) (hi : ops[i]? = some oi)
    (hs : Region.noSelect ops = true) (hf : Region.free md ops listed i = true) (hr : (Region.ready md ops listed).contains i = true) (hn : need.contains i = true)
    (hQ : ∀ c a w, Q (.panic c) (a.put oi.dst v) w → Q (.panic c) a w) (hy : Gives P ops S0 oi v a)
    (h : wpDet P md ops Q need S0 fuel (listed.setIfInBounds i true) (a.put oi.dst v) S) : wpDet P md ops Q need S0 (fuel + 1) listed a S :=
  wpDet_first hi (Region.noSelect_spec hs) hQ (fun _ _ _ hj hji hnot h0' => h0' (leans_of hn hj hji hnot)) fuel listed a S hst (fun _ => h0) h0 (Region.free_spec hi hf) (by simpa using hr) hy (fun _ _ _ hj hji hnot h0' _ => h0' (leans_of hn hj hji hnot)) h

theorem wpDet_done {listed : Array Bool} {a : Act} {S : World → Prop} (hr : Region.ready md ops listed = []) (h : ∀ w, S w → Q .normal a w) :
    ∀ fuel, wpDet P md ops Q need S0 fuel listed a S
  | 0 => ⟨hr, h⟩
  | _ + 1 => ⟨fun _ => h, by rw [hr]; simp⟩

/-- Each of those that may come up comes up next. -/
def AllDet (P : Program) (md : Region.Mode) (ops : Array Oper) (Q : Exit → Act → World → Prop) (need : List Nat) (S0 : World → Prop) (fuel : Nat) (listed : Array Bool) (a : Act) (S : World → Prop) (rs : List Nat) : Prop :=
  ∀ i ∈ rs, ∀ w, S w → Go.wpOp P ops Q i (fun a' w' => ∃ S' : World → Prop, Stays S' ∧ (leans md ops need i = true → ∀ x, S' x → S0 x) ∧ S' w' ∧ wpDet P md ops Q need S0 fuel (listed.setIfInBounds i true) a' S') a w

theorem AllDet.nil {fuel : Nat} {listed : Array Bool} {a : Act} {S : World → Prop} : AllDet P md ops Q need S0 fuel listed a S [] := fun _ h => by cases h

theorem AllDet.cons {fuel : Nat} {listed : Array Bool} {a : Act} {S : World → Prop} {i : Nat} {o : Oper} {rs : List Nat} (ho : ops[i]? = some o)
    (h : ∀ w, S w → ∀ K' : Act → World → Prop, Shut (∀ (S' : World → Prop) a w, Stays S' → (leans md ops need i = true → ∀ x, S' x → S0 x) → S' w → wpDet P md ops Q need S0 fuel (listed.setIfInBounds i true) a S' → K' a w) → if Region.wanted o (yielded ops a.tmps) = true then Oper.wp P o a w K' Q else K' (a.put o.dst undef) w)
    (hs : AllDet P md ops Q need S0 fuel listed a S rs) : AllDet P md ops Q need S0 fuel listed a S (i :: rs) := fun j hj w hS => by
  rcases List.mem_cons.1 hj with rfl | hj
  · exact wpOp_step ho (fun K' hK => h w hS K' (fun S' a w h1 h2 h3 h4 => hK a w ⟨S', h1, h2, h3, h4⟩))
  · exact hs j hj w hS

theorem wpDet_ready {rs : List Nat} {fuel : Nat} {listed : Array Bool} {a : Act} {S : World → Prop} (hr : Region.ready md ops listed = rs) (hne : rs ≠ [])
    (h : AllDet P md ops Q need S0 fuel listed a S rs) : wpDet P md ops Q need S0 (fuel + 1) listed a S :=
  ⟨fun h0 => absurd (hr ▸ h0) hne, hr ▸ h⟩

/-- The beginning. -/
theorem wp_region_det (need : List Nat) (S0 S : World → Prop) {id : Nat} {a : Act} {w : World} (hm : P.follows .mixedOrders = true) (hS : S w.drew)
    (h : wpDet P .any ops Q need S0 ops.size (Array.replicate ops.size false) a S) : (Code.region id ops true).wp P Q a w :=
  wp_region_any hm (wpAny_of_det _ _ _ S _ hS h)

/-- A call, by its contract. -/
theorem Gives.call {o : Oper} {v : Value} {a : Act} (f : FuncId) (args : Array Value) (hw : Region.wanted o (yielded ops a.tmps) = true) (he : ∀ w, (execOp a.eval o).run P w = .ok (.enter f args) w)
    (h : ∀ w, S0 w → Calls P f args w fun e w' => e = .returned v ∧ Below w.heap.size w w') : Gives P ops S0 o v a := by
  refine Or.inl ⟨hw, fun w hS => ?_⟩
  rw [he]
  exact (h w hS).mono fun e w' ⟨h1, h2⟩ => ⟨v, h1, fun _ _ => rfl, h2⟩

/-- What only reads. -/
theorem Gives.value {o : Oper} {v : Value} {a : Act} (hw : Region.wanted o (yielded ops a.tmps) = true) (h : ∀ w, S0 w → (execOp a.eval o).run P w = .ok (.value v) w) : Gives P ops S0 o v a := by
  refine Or.inl ⟨hw, fun w hS => ?_⟩
  rw [h w hS]
  exact ⟨fun _ _ => rfl, Below.refl _ _⟩

theorem Gives.of_yields {o : Oper} {v : Value} {a : Act} (h : YieldsIf P ops S0 o v a) : Gives P ops S0 o v a := by
  rcases h with ⟨hw, h⟩ | ⟨hw, h⟩
  · exact Gives.value hw h
  · exact Or.inr ⟨hw, h⟩

/-- What is not asked for. -/
theorem Gives.not {o : Oper} {a : Act} (hw : Region.wanted o (yielded ops a.tmps) = false) : Gives P ops S0 o undef a := Or.inr ⟨hw, rfl⟩

end

/-- The ways of a region meet again: the frame is the same, of the world so much is known. -/
def MeetP (a' : Act) (R : World → Prop) : Exit → Act → World → Prop
  | .normal, a, w => a = a' ∧ R w
  | _, _, _ => False

theorem wp_meetP {P : Program} {c : Code} {Q : Exit → Act → World → Prop} {a : Act} {w : World} {a' : Act} (R : World → Prop) (h : c.wp P (MeetP a' R) a w) (k : ∀ w', R w' → Q .normal a' w') : c.wp P Q a w :=
  Code.wp_mono (fun e a2 w2 hm => by
    cases e with
    | normal => obtain ⟨rfl, h2⟩ := hm; exact k _ h2
    | _ => exact absurd hm id) h

end Go.Proofs.YtpjhadaiodnnaaaGreat.M
end

section
namespace Go.Proofs.YtpjhadaiodnnaaaGreat.M
open Go.ChangeShapes Go.WideShapes Go.ChangeAt Go.RowKit

/-- A file's cells: what is told, what lasts, and whether it was cleared. -/
structure Fl where
  tp : Option Addr
  tn : Nat
  tc : Nat
  lp : Option Addr
  ln : Nat
  lc : Nat
  cl : Bool

/-- A disk's cells. -/
structure Dk where
  room : Nat
  down : Bool
  fl : Nat → Fl
  left : Nat
  kp : Option Addr
  kn : Nat
  kc : Nat

def fcell (f : Fl) (r : Nat) : Value := if r = 0 then .slice f.tp f.tn f.tc else if r = 1 then .slice f.lp f.ln f.lc else .bool f.cl

def dcell (d : Dk) (j : Nat) : Value := if j = 0 then .int .i64 d.room else if j = 1 then .bool d.down else if j = 26 then .int .i64 d.left else if j = 27 then .slice d.kp d.kn d.kc else fcell (d.fl ((j - 2) / 3)) ((j - 2) % 3)

/-- A disk's cells lie in block g, and may be written. -/
structure DC (w : World) (g : Nat) (d : Dk) : Prop where
  cells : ∀ j, j < 28 → w.cell? ⟨g, j, none⟩ = some (dcell d j)
  free : ∀ j, w.frozen? ⟨g, j, none⟩ = false

theorem DC.lt {w : World} {g : Nat} {d : Dk} (h : DC w g d) : g < w.heap.size := World.block_lt_of_cell? _ _ (h.cells 0 (by decide))

theorem DC.room {w : World} {g : Nat} {d : Dk} (h : DC w g d) : w.cell? ⟨g, 0, none⟩ = some (.int .i64 d.room) := h.cells 0 (by decide)
theorem DC.down {w : World} {g : Nat} {d : Dk} (h : DC w g d) : w.cell? ⟨g, 1, none⟩ = some (.bool d.down) := h.cells 1 (by decide)
theorem DC.left {w : World} {g : Nat} {d : Dk} (h : DC w g d) : w.cell? ⟨g, 26, none⟩ = some (.int .i64 d.left) := h.cells 26 (by decide)
theorem DC.keep {w : World} {g : Nat} {d : Dk} (h : DC w g d) : w.cell? ⟨g, 27, none⟩ = some (.slice d.kp d.kn d.kc) := h.cells 27 (by decide)

theorem dcell_file (d : Dk) {i r : Nat} (hi : i < 8) (hr : r < 3) : dcell d (2 + i * 3 + r) = fcell (d.fl i) r := by
  unfold dcell
  rw [if_neg (by omega), if_neg (by omega), if_neg (by omega), if_neg (by omega), show (2 + i * 3 + r - 2) / 3 = i by omega, show (2 + i * 3 + r - 2) % 3 = r by omega]

theorem DC.told {w : World} {g : Nat} {d : Dk} (h : DC w g d) {i : Nat} (hi : i < 8) : w.cell? ⟨g, 2 + i * 3, none⟩ = some (.slice (d.fl i).tp (d.fl i).tn (d.fl i).tc) := by
  have := h.cells (2 + i * 3 + 0) (by omega)
  rw [dcell_file d hi (by decide)] at this
  exact this
theorem DC.lasts {w : World} {g : Nat} {d : Dk} (h : DC w g d) {i : Nat} (hi : i < 8) : w.cell? ⟨g, 2 + i * 3 + 1, none⟩ = some (.slice (d.fl i).lp (d.fl i).ln (d.fl i).lc) := by
  rw [h.cells (2 + i * 3 + 1) (by omega), dcell_file d hi (by decide)]; rfl
theorem DC.cl {w : World} {g : Nat} {d : Dk} (h : DC w g d) {i : Nat} (hi : i < 8) : w.cell? ⟨g, 2 + i * 3 + 2, none⟩ = some (.bool (d.fl i).cl) := by
  rw [h.cells (2 + i * 3 + 2) (by omega), dcell_file d hi (by decide)]; rfl

theorem DC.below {w w' : World} {g B : Nat} {d : Dk} (h : DC w g d) (hb : Below B w w') (hg : g < B) : DC w' g d :=
  ⟨fun j hj => by rw [hb.cell (p := ⟨g, j, none⟩) hg]; exact h.cells j hj, fun j => by rw [hb.frozen (p := ⟨g, j, none⟩) hg]; exact h.free j⟩

/-- A cell of it set. -/
theorem DC.set {w : World} {g : Nat} {d d' : Dk} (h : DC w g d) (k : Nat) (hk : k < 28) (v : Value) (hv : dcell d' k = v) (hne : ∀ j, j < 28 → j ≠ k → dcell d' j = dcell d j) : DC (w.setCell ⟨g, k, none⟩ v) g d' := by
  refine ⟨fun j hj => ?_, fun j => by rw [World.frozen?_setCell]; exact h.free j⟩
  by_cases e : j = k
  · subst e
    rw [hv]
    exact World.cell?_setCell_same _ _ _ (h.cells j hj)
  · rw [World.cell?_setCell_other (h := fun e2 => e (congrArg Addr.off e2).symm), hne j hj e]
    exact h.cells j hj

theorem DC.setDown {w : World} {g : Nat} {d : Dk} (h : DC w g d) (b : Bool) : DC (w.setCell ⟨g, 1, none⟩ (.bool b)) g { d with down := b } := by
  refine h.set 1 (by decide) _ rfl fun j _ hj => ?_
  unfold dcell
  by_cases h0 : j = 0
  · rw [if_pos h0, if_pos h0]
  · rw [if_neg h0, if_neg h0, if_neg hj, if_neg hj]

theorem DC.setLeft {w : World} {g : Nat} {d : Dk} (h : DC w g d) (n : Nat) : DC (w.setCell ⟨g, 26, none⟩ (.int .i64 n)) g { d with left := n } := by
  refine h.set 26 (by decide) _ rfl fun j _ hj => ?_
  unfold dcell
  by_cases h0 : j = 0
  · rw [if_pos h0, if_pos h0]
  · rw [if_neg h0, if_neg h0]
    by_cases h1 : j = 1
    · rw [if_pos h1, if_pos h1]
    · rw [if_neg h1, if_neg h1, if_neg hj, if_neg hj]

theorem DC.setKeep {w : World} {g : Nat} {d : Dk} (h : DC w g d) (p : Option Addr) (n c : Nat) : DC (w.setCell ⟨g, 27, none⟩ (.slice p n c)) g { d with kp := p, kn := n, kc := c } := by
  refine h.set 27 (by decide) _ rfl fun j _ hj => ?_
  unfold dcell
  by_cases h0 : j = 0
  · rw [if_pos h0, if_pos h0]
  · rw [if_neg h0, if_neg h0]
    by_cases h1 : j = 1
    · rw [if_pos h1, if_pos h1]
    · rw [if_neg h1, if_neg h1]
      by_cases h2 : j = 26
      · rw [if_pos h2, if_pos h2]
      · rw [if_neg h2, if_neg h2, if_neg hj, if_neg hj]

/-- One file of it another. -/
def upF (fl : Nat → Fl) (i : Nat) (f : Fl) : Nat → Fl := fun k => if k = i then f else fl k

theorem upF_same (fl : Nat → Fl) (i : Nat) (f : Fl) : upF fl i f i = f := if_pos rfl
theorem upF_other (fl : Nat → Fl) {i k : Nat} (f : Fl) (h : k ≠ i) : upF fl i f k = fl k := if_neg h

theorem DC.setFile {w : World} {g : Nat} {d : Dk} (h : DC w g d) {i r : Nat} (hi : i < 8) (hr : r < 3) (f : Fl) (v : Value) (hv : fcell f r = v) (hne : ∀ q, q < 3 → q ≠ r → fcell f q = fcell (d.fl i) q) :
    DC (w.setCell ⟨g, 2 + i * 3 + r, none⟩ v) g { d with fl := upF d.fl i f } := by
  refine h.set (2 + i * 3 + r) (by omega) _ ?_ fun j hj hjk => ?_
  · rw [dcell_file _ hi hr]
    show fcell (upF d.fl i f i) r = v
    rw [upF_same]
    exact hv
  · unfold dcell
    by_cases h0 : j = 0
    · rw [if_pos h0, if_pos h0]
    · rw [if_neg h0, if_neg h0]
      by_cases h1 : j = 1
      · rw [if_pos h1, if_pos h1]
      · rw [if_neg h1, if_neg h1]
        by_cases h2 : j = 26
        · rw [if_pos h2, if_pos h2]
        · rw [if_neg h2, if_neg h2]
          by_cases h3 : j = 27
          · rw [if_pos h3, if_pos h3]
          · rw [if_neg h3, if_neg h3]
            show fcell (upF d.fl i f ((j - 2) / 3)) ((j - 2) % 3) = _
            by_cases hji : (j - 2) / 3 = i
            · rw [hji, upF_same]
              exact hne _ (Nat.mod_lt _ (by decide)) (by omega)
            · rw [upF_other _ _ hji]

theorem DC.setTold {w : World} {g : Nat} {d : Dk} (h : DC w g d) {i : Nat} (hi : i < 8) (p : Option Addr) (n c : Nat) : DC (w.setCell ⟨g, 2 + i * 3, none⟩ (.slice p n c)) g { d with fl := upF d.fl i { d.fl i with tp := p, tn := n, tc := c } } :=
  h.setFile (r := 0) hi (by decide) _ _ rfl fun q _ hq0 => by unfold fcell; rw [if_neg hq0, if_neg hq0]
theorem DC.setLasts {w : World} {g : Nat} {d : Dk} (h : DC w g d) {i : Nat} (hi : i < 8) (p : Option Addr) (n c : Nat) : DC (w.setCell ⟨g, 2 + i * 3 + 1, none⟩ (.slice p n c)) g { d with fl := upF d.fl i { d.fl i with lp := p, ln := n, lc := c } } :=
  h.setFile (r := 1) hi (by decide) _ _ rfl fun q _ hq0 => by unfold fcell; rw [if_neg hq0, if_neg hq0]
theorem DC.setCl {w : World} {g : Nat} {d : Dk} (h : DC w g d) {i : Nat} (hi : i < 8) (b : Bool) : DC (w.setCell ⟨g, 2 + i * 3 + 2, none⟩ (.bool b)) g { d with fl := upF d.fl i { d.fl i with cl := b } } :=
  h.setFile (r := 2) hi (by decide) _ _ rfl fun q hq hq2 => by
    match q, hq, hq2 with
    | 0, _, _ => rfl
    | 1, _, _ => rfl
    | 2, _, h => exact absurd rfl h

set_option maxRecDepth 20000 in
theorem made_any (w : World) (g : Nat) (d : Dk) (h : DC w g d) (hr : 0 < d.room) :
    Calls Tryz.prog 54 #[.pointer (some ⟨g, 0, none⟩)] w fun e w' => e = .returned (.bool true) ∧ w' = w := by
  have h0 := h.room
  generalize d.room = r at *
  clear h
  go_enter Tryz.func54, Tryz.ntmps54
  go_wp2
  go_ret
  exact ⟨rfl, rfl⟩

set_option maxRecDepth 20000 in
theorem made_nil (w : World) : Calls Tryz.prog 54 #[.pointer none] w fun e w' => e = .returned (.bool false) ∧ w' = w := by
  go_enter Tryz.func54, Tryz.ntmps54
  go_wp2
  go_ret
  exact ⟨rfl, rfl⟩

set_option maxRecDepth 20000 in
theorem made_zero (w : World) (g : Nat) (h : w.cell? ⟨g, 0, none⟩ = some (.int .i64 0)) :
    Calls Tryz.prog 54 #[.pointer (some ⟨g, 0, none⟩)] w fun e w' => e = .returned (.bool false) ∧ w' = w := by
  go_enter Tryz.func54, Tryz.ntmps54
  go_wp2
  go_ret
  exact ⟨rfl, rfl⟩

set_option maxRecDepth 20000 in
theorem ready_any (w : World) (g : Nat) (d : Dk) (h : DC w g d) (hr : 0 < d.room) :
    Calls Tryz.prog 47 #[.pointer (some ⟨g, 0, none⟩)] w fun e w' => e = .returned (.int .i64 (if d.down then 50 else 0)) ∧ w' = w := by
  have h1 := h.down
  have hM := made_any w g d h hr
  clear h hr
  cases hd : d.down with
  | true =>
    rw [hd] at h1
    clear hd
    go_enter Tryz.func47, Tryz.ntmps47
    go_wp2_with fail
    refine hM.mono ?_
    rintro e w1 ⟨rfl, rfl⟩
    go_wp2_with fail
    go_ret
    exact ⟨rfl, rfl⟩
  | false =>
    rw [hd] at h1
    clear hd
    go_enter Tryz.func47, Tryz.ntmps47
    go_wp2_with fail
    refine hM.mono ?_
    rintro e w1 ⟨rfl, rfl⟩
    go_wp2_with fail
    go_ret
    exact ⟨rfl, rfl⟩

set_option maxRecDepth 20000 in
theorem file_ok (w : World) (g : Nat) (d : Dk) (h : DC w g d) (hr : 0 < d.room) (hd : d.down = false) (i : Nat) (hi : i < 8) :
    Calls Tryz.prog 57 #[.pointer (some ⟨g, 0, none⟩), .int .i64 i] w fun e w' => e = .returned (.tuple #[.pointer (some ⟨g, 2 + i * 3, none⟩), .int .i64 0]) ∧ w' = w := by
  have hR := ready_any w g d h hr
  rw [hd] at hR
  have hc := h.room
  clear h hr hd
  go_enter Tryz.func57, Tryz.ntmps57
  go_wp2_with fail
  refine hR.mono ?_
  rintro e w1 ⟨rfl, rfl⟩
  go_wp2_with fail
  go_ret2
  exact ⟨rfl, rfl⟩

set_option maxRecDepth 20000 in
theorem file_none (w : World) (g : Nat) (d : Dk) (h : DC w g d) (hr : 0 < d.room) (hd : d.down = false) (i : Int) (hi : i < 0 ∨ 8 ≤ i) :
    Calls Tryz.prog 57 #[.pointer (some ⟨g, 0, none⟩), .int .i64 i] w fun e w' => e = .returned (.tuple #[.pointer none, .int .i64 51]) ∧ w' = w := by
  have hR := ready_any w g d h hr
  rw [hd] at hR
  clear h hr hd
  rcases hi with h | h
  · go_enter Tryz.func57, Tryz.ntmps57
    go_wp2_with fail
    refine hR.mono ?_
    rintro e w1 ⟨rfl, rfl⟩
    go_wp2_with fail
    go_ret2
    exact ⟨rfl, rfl⟩
  · have h2 : ¬ i < 0 := by omega
    go_enter Tryz.func57, Tryz.ntmps57
    go_wp2_with fail
    refine hR.mono ?_
    rintro e w1 ⟨rfl, rfl⟩
    go_wp2_with fail
    go_ret2
    exact ⟨rfl, rfl⟩

set_option maxRecDepth 20000 in
theorem file_down (w : World) (g : Nat) (d : Dk) (h : DC w g d) (hr : 0 < d.room) (hd : d.down = true) (i : Int) :
    Calls Tryz.prog 57 #[.pointer (some ⟨g, 0, none⟩), .int .i64 i] w fun e w' => e = .returned (.tuple #[.pointer none, .int .i64 50]) ∧ w' = w := by
  have hR := ready_any w g d h hr
  rw [hd] at hR
  clear h hr hd
  go_enter Tryz.func57, Tryz.ntmps57
  go_wp2_with fail
  refine hR.mono ?_
  rintro e w1 ⟨rfl, rfl⟩
  go_wp2_with fail
  go_ret2
  exact ⟨rfl, rfl⟩

/-- How many bytes the first k files are told to have. -/
def usedN (d : Dk) : Nat → Nat
  | 0 => 0
  | k + 1 => usedN d k + (d.fl k).tn

theorem usedN_le (d : Dk) (h : ∀ i, i < 8 → (d.fl i).tn ≤ 1099511627776) : ∀ k, k ≤ 8 → usedN d k ≤ k * 1099511627776
  | 0, _ => Nat.zero_le _
  | k + 1, hk => by
    have := usedN_le d h k (by omega)
    have := h k (by omega)
    show usedN d k + (d.fl k).tn ≤ _
    omega

set_option maxRecDepth 20000 in
theorem used_any (w : World) (g : Nat) (d : Dk) (h : DC w g d) (hr : 0 < d.room) (hs : ∀ i, i < 8 → (d.fl i).tn ≤ 1099511627776) :
    Calls Tryz.prog 84 #[.pointer (some ⟨g, 0, none⟩)] w fun e w' => e = .returned (.int .i64 (usedN d 8)) ∧ w' = w := by
  have hM := made_any w g d h hr
  have hc := h.room
  go_enter Tryz.func84, Tryz.ntmps84
  go_wp2_with fail
  refine hM.mono ?_
  rintro e w1 ⟨rfl, rfl⟩
  go_wp2_with fail
  go_loop [3, 8] (fun s i => ∃ k : Nat, k ≤ 8 ∧ i = .int .i64 k ∧ s = .int .i64 (usedN d k)) (fun _ i => 8 - (intOf i).toNat)
  case atStart => exact ⟨0, Nat.zero_le _, rfl, rfl⟩
  case round =>
    obtain ⟨k, hk, rfl, rfl⟩ := hrel
    by_cases h8 : k < 8
    · have hct := h.told h8
      have hle := usedN_le d hs k hk
      have hl := hs k h8
      have HS : Hid (usedN d (k + 1) = usedN d k + (d.fl k).tn) := rfl
      clear h hM hs
      generalize usedN d k = u at *
      generalize d.fl k = f at *
      obtain ⟨tp, tn, tc, lp, ln, lc, cl⟩ := f
      dsimp only at *
      go_wp2_with fail
      go_round
      case rel => exact ⟨k + 1, by omega, by go_num, by rw [HS.out]; go_num⟩
      case measure => simp [intOf]; omega
    · obtain rfl : k = 8 := by omega
      clear h hM hs
      go_wp2_with fail
      go_ret
      exact ⟨rfl, rfl⟩

set_option maxRecDepth 20000 in
theorem burn_none (w : World) (g : Nat) (d : Dk) (h : DC w g d) (hl : d.left = 0) (n : Nat) :
    Calls Tryz.prog 95 #[.pointer (some ⟨g, 26, none⟩), .int .i64 n] w fun e w' => e = .returned (.tuple #[.int .i64 n, .bool false]) ∧ w' = w := by
  have hc := h.left
  rw [hl] at hc
  clear h
  go_enter Tryz.func95, Tryz.ntmps95
  go_wp2_with fail
  go_ret2
  exact ⟨rfl, rfl⟩

set_option maxRecDepth 20000 in
theorem burn_out (w : World) (g : Nat) (d : Dk) (h : DC w g d) (hl : 0 < d.left) (n : Nat) (hn : d.left ≤ n) :
    Calls Tryz.prog 95 #[.pointer (some ⟨g, 26, none⟩), .int .i64 n] w fun e w' => e = .returned (.tuple #[.int .i64 d.left, .bool true]) ∧ w' = w := by
  have hc := h.left
  generalize d.left = l at *
  clear h
  go_enter Tryz.func95, Tryz.ntmps95
  go_wp2_with fail
  go_ret2
  exact ⟨rfl, rfl⟩

set_option maxRecDepth 20000 in
theorem burn_on (w : World) (g : Nat) (d : Dk) (h : DC w g d) (n : Nat) (hn : n < d.left) (hm : d.left ≤ 9223372036854775807) :
    Calls Tryz.prog 95 #[.pointer (some ⟨g, 26, none⟩), .int .i64 n] w fun e w' => e = .returned (.tuple #[.int .i64 n, .bool false]) ∧ w' = w.setCell ⟨g, 26, none⟩ (.int .i64 (d.left - n : Nat)) := by
  have hc := h.left
  have hf := h.free 26
  generalize d.left = l at *
  have e : (l : Int) - (n : Int) = ((l - n : Nat) : Int) := by omega
  clear h
  go_enter Tryz.func95, Tryz.ntmps95
  go_wp2_with fail
  go_ret2
  exact ⟨rfl, rfl⟩

set_option maxRecDepth 20000 in
theorem start_any (w : World) (g : Nat) (d : Dk) (h : DC w g d) (hr : 0 < d.room) :
    Calls Tryz.prog 23 #[.pointer (some ⟨g, 0, none⟩)] w fun e w' => e = .returned (.int .i64 0) ∧ w' = w.setCell ⟨g, 1, none⟩ (.bool false) := by
  have hM := made_any w g d h hr
  have hc := h.down
  have hf := h.free 1
  generalize d.down = b at *
  clear h
  go_enter Tryz.func23, Tryz.ntmps23
  go_wp2_with fail
  refine hM.mono ?_
  rintro e w1 ⟨rfl, rfl⟩
  clear hM
  go_wp2_with fail
  go_ret
  exact ⟨rfl, rfl⟩

/-- A disk that was just made. -/
def dk0 (room : Nat) : Dk := ⟨room, false, fun _ => ⟨none, 0, 0, none, 0, 0, false⟩, 0, none, 0, 0⟩

set_option maxRecDepth 20000 in
theorem new_any (w : World) (r : Nat) (h1 : 1 ≤ r) (h2 : r ≤ 4194304) :
    Calls Tryz.prog 6 #[.int .i64 r] w fun e w' => e = .returned (.tuple #[.pointer (some ⟨w.heap.size, 0, none⟩), .int .i64 0]) ∧ DC w' w.heap.size (dk0 r) ∧ Below w.heap.size w w' := by
  go_enter Tryz.func6, Tryz.ntmps6
  go_wp2_with fail
  go_ret2
  refine ⟨rfl, ⟨fun j hj => ?_, fun j => World.frozen?_alloc_at _ _ _ _ rfl⟩, (Below.refl _ _).alloc (Nat.le_refl _) _⟩
  match j, hj with
  | 0, _ => simp [dcell, dk0]
  | 1, _ => simp [dcell, dk0]
  | 2, _ => simp [dcell, fcell, dk0]
  | 3, _ => simp [dcell, fcell, dk0]
  | 4, _ => simp [dcell, fcell, dk0]
  | 5, _ => simp [dcell, fcell, dk0]
  | 6, _ => simp [dcell, fcell, dk0]
  | 7, _ => simp [dcell, fcell, dk0]
  | 8, _ => simp [dcell, fcell, dk0]
  | 9, _ => simp [dcell, fcell, dk0]
  | 10, _ => simp [dcell, fcell, dk0]
  | 11, _ => simp [dcell, fcell, dk0]
  | 12, _ => simp [dcell, fcell, dk0]
  | 13, _ => simp [dcell, fcell, dk0]
  | 14, _ => simp [dcell, fcell, dk0]
  | 15, _ => simp [dcell, fcell, dk0]
  | 16, _ => simp [dcell, fcell, dk0]
  | 17, _ => simp [dcell, fcell, dk0]
  | 18, _ => simp [dcell, fcell, dk0]
  | 19, _ => simp [dcell, fcell, dk0]
  | 20, _ => simp [dcell, fcell, dk0]
  | 21, _ => simp [dcell, fcell, dk0]
  | 22, _ => simp [dcell, fcell, dk0]
  | 23, _ => simp [dcell, fcell, dk0]
  | 24, _ => simp [dcell, fcell, dk0]
  | 25, _ => simp [dcell, fcell, dk0]
  | 26, _ => simp [dcell, dk0]
  | 27, _ => simp [dcell, dk0]
  | k + 28, h => exact absurd h (by omega)

end Go.Proofs.YtpjhadaiodnnaaaGreat.M
end

section
namespace Go.Proofs.YtpjhadaiodnnaaaGreat.M
open Go.ChangeShapes Go.WideShapes Go.ChangeAt Go.RowKit

/-- What an append has done to the world: p grew in place, or p' is new. -/
def Grow (w w' : World) (p : Option Addr) (c : Nat) (p' : Option Addr) (c' : Nat) : Prop :=
  (p' = p ∧ c' = c ∧ w.grownBy w' (p.map Addr.block)) ∨ (w.grownBy w' none ∧ ∀ a, p' = some a → w.heap.size ≤ a.block)

theorem grownBy_refl (w : World) (r : Option Nat) : w.grownBy w r := ⟨rfl, rfl, rfl, Nat.le_refl _, fun _ _ _ => rfl⟩

/-- A slice of numbers whose row, from block B on, is its owner's. -/
def OwS (k : IntKind) (e : TypeId) (w : World) (B : Nat) (p : Option Addr) (n c : Nat) (xs : List Int) : Prop := w.ownsRow B e 1 (.slice p n c) n (xs.map (.int k))

theorem OwS.len {k e w B p n c xs} (h : OwS k e w B p n c xs) : xs.length = n := by
  have := h.1
  simpa using this

theorem OwS.ow {k e w B p n c xs} (h : OwS k e w B p n c xs) : Ow k e w B p n c xs := ⟨h.len, Or.inr h⟩
theorem OwS.rd {k e w B p n c xs} (h : OwS k e w B p n c xs) : Rd k w p n c xs := h.ow.rd
theorem OwS.nil (k : IntKind) (e : TypeId) (w : World) (B : Nat) : OwS k e w B none 0 0 [] := World.ownsRow_nil _ _ _ _
theorem OwS.lt {k e w B p n c xs} (h : OwS k e w B p n c xs) {a : Addr} (hp : p = some a) : B ≤ a.block ∧ a.block < w.heap.size := World.ownsRow.lt h a.block (by rw [hp]; rfl)

theorem OwS.take {k e w B p n c xs} (h : OwS k e w B p n c xs) {j : Nat} (hj : j ≤ n) : OwS k e w B p j c (xs.take j) := by
  have hl := h.len
  refine ⟨by simp; omega, ?_⟩
  rcases h.2 with ⟨hv, rfl⟩ | ⟨g, cap, cur, hv, hg, hh, hc, hm, hs, ht⟩
  · injection hv with e1 e2 e3
    obtain rfl : j = 0 := by omega
    subst e1
    subst e3
    exact Or.inl ⟨rfl, rfl⟩
  · injection hv with e1 e2 e3
    subst e1
    subst e3
    refine Or.inr ⟨g, c, cur, rfl, hg, hh, by omega, hm, hs, ?_⟩
    rw [Nat.mul_one] at ht ⊢
    rw [List.map_take, ← ht, List.take_take, Nat.min_eq_left hj]

/-- A row of another world that is as it was. -/
theorem OwS.same {k e w w' B p n c xs} (h : OwS k e w B p n c xs) (hb : ∀ a, p = some a → w'.heap[a.block]? = w.heap[a.block]?) : OwS k e w' B p n c xs := by
  refine ⟨h.1, ?_⟩
  rcases h.2 with h2 | ⟨g, cap, cur, hv, hg, hh, r⟩
  · exact Or.inl h2
  · refine Or.inr ⟨g, cap, cur, hv, hg, ?_, r⟩
    injection hv with e1 e2 e3
    rw [hb ⟨g, 0, none⟩ e1]
    exact hh

/-- What begins a row, in a world where the row has grown in place. -/
theorem OwS.begin {k e w w' B a n c xs n' c' xs' ln lc ys} (ht : OwS k e w B (some a) n c xs) (ht' : OwS k e w' B (some a) n' c' xs') (hl : OwS k e w B (some a) ln lc ys) (hp : ys <+: xs') (hc : c' = c) : OwS k e w' B (some a) ln lc ys := by
  refine ⟨hl.1, ?_⟩
  rcases hl.2 with ⟨hv, _⟩ | ⟨g, cap, cur, hv, hg, hh, h1, h2, h3, h4⟩
  · cases hv
  rcases ht.2 with ⟨hv2, _⟩ | ⟨g2, cap2, cur2, hv2, hg2, hh2, i1, i2, i3, i4⟩
  · cases hv2
  rcases ht'.2 with ⟨hv3, _⟩ | ⟨g3, cap3, cur3, hv3, hg3, hh3, j1, j2, j3, j4⟩
  · cases hv3
  injection hv with e1 e2 e3
  injection hv2 with e4 e5 e6
  injection hv3 with e7 e8 e9
  rw [e1] at e4 e7
  injection e4 with e4
  injection e7 with e7
  injection e4 with e4
  injection e7 with e7
  subst e4
  subst e7
  subst e3
  subst e6
  subst e9
  rw [hh] at hh2
  injection hh2 with hh2
  injection hh2 with hh2
  subst hh2
  have hlen : ys.length = ln := hl.len
  have hle : ln ≤ n' := by have := hp.length_le; rw [hlen, ht'.len] at this; exact this
  refine Or.inr ⟨g, lc, cur3, by rw [e1], hg, hh3, h1, h2, by omega, ?_⟩
  rw [Nat.mul_one] at j4 ⊢
  obtain ⟨zs, hz⟩ := hp
  have : cur3.toList.take ln = (cur3.toList.take n').take ln := by rw [List.take_take, Nat.min_eq_left hle]
  rw [this, j4, ← hz, List.map_append, List.take_append_of_le_length (by simp; omega), List.take_of_length_le (by simp; omega)]

section
variable {P : Program} (w : World)

theorem run_app2 (k : IntKind) (t ty e : TypeId) (i : TypeInfo) (z : Value) (by_ : Nat) (ht : P.underlying t = some (.slice e)) (hi : P.info? e = some i) (hz : i.zero = some z) (hsize : i.size = 1) (hby : i.bytes = by_) (hzs : z.cells.size = 1)
    {B : Nat} {p q : Option Addr} {n c m d : Nat} {xs ys : List Int} (ho : OwS k e w B p n c xs) (hr : Rd k w q m d ys) (hb : (n + m) * by_ ≤ 140737488355328) (h63 : n + m ≤ maxLen) (hB : B ≤ w.heap.size) :
    ∃ p' c' w', (Builtin.append_ #[t, t] ty #[.slice p n c, .slice q m d]).run P w = .ok (.slice p' (n + m) c') w' ∧ OwS k e w' B p' (n + m) c' (xs ++ ys) ∧ Grow w w' p c p' c' := by
  by_cases hm : m = 0
  · subst hm
    have : ys = [] := List.length_eq_zero_iff.1 hr.len
    subst this
    exact ⟨p, c, w, run_app_zero w t ty e i ht hi p q n c d ho.ow.cap, by simpa using ho, Or.inl ⟨rfl, rfl, grownBy_refl _ _⟩⟩
  · have hm0 : 0 < m := Nat.pos_of_ne_zero hm
    obtain ⟨b, o, rfl, hc⟩ := hr.cells hm0
    have hn : ∀ j u, (ys.map (Value.int k))[j]? = some u → w.cell? ((⟨b, o, none⟩ : Addr).add j) = some u := by
      intro j u hj
      rw [List.getElem?_map] at hj
      have hj' : j < ys.length := by
        rcases Nat.lt_or_ge j ys.length with h | h
        · exact h
        · rw [List.getElem?_eq_none h] at hj; cases hj
      rw [Addr.add_lit, hc j (by rw [← hr.len]; exact hj')]
      rw [List.getElem?_eq_getElem hj'] at hj
      rw [List.getD_eq_getElem?_getD, List.getElem?_eq_getElem hj']
      exact hj
    have hl : (ys.map (Value.int k)).length = m * 1 := by simp [hr.len]
    have fin : ∀ B' v' w', w'.ownsRow B' e 1 v' (n + m) (xs.map (Value.int k) ++ ys.map (Value.int k)) → ∃ p' c', v' = .slice p' (n + m) c' ∧ OwS k e w' B' p' (n + m) c' (xs ++ ys) := by
      intro B' v' w' h
      rw [← List.map_append] at h
      have h' := h
      rcases h.2 with ⟨_, hv⟩ | ⟨g, cap, cur, rfl, r⟩
      · omega
      · exact ⟨_, _, rfl, h'⟩
    have new : ∀ v' w', w'.ownsRow w.heap.size e 1 v' (n + m) (xs.map (Value.int k) ++ ys.map (Value.int k)) → w.grownBy w' none → ∃ p' c', v' = .slice p' (n + m) c' ∧ OwS k e w' B p' (n + m) c' (xs ++ ys) ∧ Grow w w' p c p' c' := by
      intro v' w' h hg
      obtain ⟨p', c', rfl, h4⟩ := fin _ v' w' h
      refine ⟨p', c', rfl, ownsRow_lower h4 hB, Or.inr ⟨hg, fun a ha => ?_⟩⟩
      subst ha
      exact (h.lt a.block rfl).1
    have ho' := ho
    rcases ho.2 with ⟨hv, rfl⟩ | ⟨g, cap, cur, hv, hg, hh, hc2, hm2, hs2, ht2⟩
    · have hxs : xs = [] := List.length_eq_zero_iff.1 ho.len
      subst hxs
      injection hv with e1 e2 e3
      subst e1
      subst e3
      obtain ⟨v', w', h1, h2, h3, _⟩ := run_append_own (P := P) w w.heap.size t ty e i z 1 by_ ht hi hz hsize hby hzs (by decide) _ 0 [] (World.ownsRow_nil _ _ _ _) ⟨b, o, none⟩ m d _ hl hn (oneCells k ys) h63 hb (Nat.le_refl _)
      obtain ⟨p', c', rfl, h4, h5⟩ := new v' w' h2 h3
      exact ⟨p', c', w', h1, h4, h5⟩
    · injection hv with e1 e2 e3
      subst e1
      subst e3
      rcases Nat.lt_or_ge c (n + m) with hlt | hge
      · obtain ⟨v', w', h1, h2, h3⟩ := run_append_arg_grows (P := P) w t ty e i z 1 by_ ht hi hz hsize hby hzs (by decide) ⟨g, 0, none⟩ n c (xs.map (Value.int k)) (by simp [ho.len]) (World.ownsRow.cells ho' rfl) ⟨b, o, none⟩ m d _ hl hn hlt h63 hb
        obtain ⟨p', c', rfl, h4, h5⟩ := new v' w' h2 h3
        exact ⟨p', c', w', h1, h4, h5⟩
      · obtain ⟨w', h1, h2, h3⟩ := run_append_own_spare (P := P) w B t ty e i 1 ht hi hsize g n c _ ho' ⟨b, o, none⟩ m d _ hl hn (oneCells k ys) hge
        obtain ⟨p', c', hp, h4⟩ := fin _ _ w' h2
        injection hp with e4 e5 e6
        subst e4
        subst e6
        exact ⟨_, _, w', h1, h4, Or.inl ⟨rfl, rfl, h3⟩⟩

/-- The same as a law for the walk. -/
theorem wpList_app2 {ops : Array Oper} {rest : List Oper} {o : Oper} {a : Act} {Q : Exit → Act → World → Prop} (hgd : o.guard = none) (s x : Operand) (t : TypeId)
    (hop : o.op = .call { callee := .builtin .append, args := #[s, x], argTypes := #[t, t] })
    (k : IntKind) (e : TypeId) (i : TypeInfo) (z : Value) (by_ : Nat) (ht : P.underlying t = some (.slice e)) (hi : P.info? e = some i) (hz : i.zero = some z) (hsize : i.size = 1) (hby : i.bytes = by_) (hzs : z.cells.size = 1)
    (B : Nat) (p : Option Addr) (n c : Nat) (xs : List Int) (hs : a.eval s = .slice p n c) (ho : OwS k e w B p n c xs)
    (q : Option Addr) (m d : Nat) (ys : List Int) (hx : a.eval x = .slice q m d) (hr : Rd k w q m d ys) (hb : (n + m) * by_ ≤ 140737488355328) (h63 : n + m ≤ maxLen) (hB : B ≤ w.heap.size)
    (h : ∀ p' c' w', OwS k e w' B p' (n + m) c' (xs ++ ys) → Grow w w' p c p' c' → wpList P ops Q rest (a.put o.dst (.slice p' (n + m) c')) w') : wpList P ops Q (o :: rest) a w := by
  refine wpList_plain hgd fun K hK => ?_
  obtain ⟨p', c', w', hrun, h1, h2⟩ := run_app2 (P := P) w k t o.type e i z by_ ht hi hz hsize hby hzs ho hr hb h63 hB
  unfold Oper.wp
  simp [execOp, hop, resolve, invoke, builtin, hs, hx, hrun, Result.andThen]
  exact hK _ _ (h p' c' w' h1 h2)

end

/-- A change of the world that leaves all blocks but some as they were. -/
structure Ch (S : Nat → Prop) (w w' : World) : Prop where
  os : w'.os = w.os
  tape : w'.tape = w.tape
  output : w'.output = w.output
  size : w.heap.size ≤ w'.heap.size
  block : ∀ k, k < w.heap.size → ¬ S k → w'.heap[k]? = w.heap[k]?

theorem Ch.refl (S : Nat → Prop) (w : World) : Ch S w w := ⟨rfl, rfl, rfl, Nat.le_refl _, fun _ _ _ => rfl⟩
theorem Ch.trans {S : Nat → Prop} {a b c : World} (h : Ch S a b) (k : Ch S b c) : Ch S a c :=
  ⟨k.os.trans h.os, k.tape.trans h.tape, k.output.trans h.output, Nat.le_trans h.size k.size, fun j hj hs => (k.block j (Nat.lt_of_lt_of_le hj h.size) hs).trans (h.block j hj hs)⟩
theorem Ch.mono {S T : Nat → Prop} {a b : World} (h : Ch S a b) (hs : ∀ k, k < a.heap.size → S k → T k) : Ch T a b :=
  ⟨h.os, h.tape, h.output, h.size, fun j hj ht => h.block j hj fun e => ht (hs j hj e)⟩
theorem Ch.of_below {a b : World} (h : Below a.heap.size a b) (S : Nat → Prop) : Ch S a b :=
  ⟨h.os, h.tape, h.output, h.size, fun j hj _ => h.block j hj⟩
theorem Ch.below {S : Nat → Prop} {a b : World} {B : Nat} (h : Ch S a b) (hB : B ≤ a.heap.size) (hs : ∀ k, S k → B ≤ k) : Below B a b :=
  ⟨h.os, h.tape, h.output, h.size, fun j hj => h.block j (Nat.lt_of_lt_of_le hj hB) fun e => absurd (hs j e) (Nat.not_le.2 hj)⟩
theorem Ch.cell {S : Nat → Prop} {a b : World} (h : Ch S a b) {p : Addr} (hp : p.block < a.heap.size) (hs : ¬ S p.block) : b.cell? p = a.cell? p := World.cell?_of_block (h.block p.block hp hs)
theorem Ch.frozen {S : Nat → Prop} {a b : World} (h : Ch S a b) {p : Addr} (hp : p.block < a.heap.size) (hs : ¬ S p.block) : b.frozen? p = a.frozen? p := World.frozen?_of_block (h.block p.block hp hs)
theorem Ch.setCell (w : World) (a : Addr) (v : Value) : Ch (fun k => k = a.block) w (w.setCell a v) :=
  have h := (Below.refl 0 w).setCell (p := a) (Nat.zero_le _) v
  ⟨h.os, h.tape, h.output, h.size, fun _ _ hs => Below.heap_setCell _ _ _ _ hs⟩

theorem DC.ch {S : Nat → Prop} {w w' : World} {g : Nat} {d : Dk} (h : DC w g d) (hc : Ch S w w') (hg : ¬ S g) : DC w' g d :=
  ⟨fun j hj => by rw [hc.cell (p := ⟨g, j, none⟩) h.lt hg]; exact h.cells j hj, fun j => by rw [hc.frozen (p := ⟨g, j, none⟩) h.lt hg]; exact h.free j⟩

theorem OwS.ch {S : Nat → Prop} {k e w w' B p n c xs} (h : OwS k e w B p n c xs) (hc : Ch S w w') (hs : ∀ a, p = some a → ¬ S a.block) : OwS k e w' B p n c xs :=
  h.same fun a ha => hc.block _ (h.lt ha).2 (hs a ha)

theorem Rd.ch {S : Nat → Prop} {k : IntKind} {w w' : World} {p : Option Addr} {n c : Nat} {xs : List Int} (h : Rd k w p n c xs) (hc : Ch S w w') (hs : ∀ a, p = some a → ¬ S a.block) : Rd k w' p n c xs := by
  refine ⟨h.len, h.cap, h.nil, fun hn => ?_⟩
  obtain ⟨b, o, hp, hcs⟩ := h.cells hn
  refine ⟨b, o, hp, fun i hi => ?_⟩
  have h1 := hcs i hi
  rw [hc.cell (p := ⟨b, o + i, none⟩) (World.block_lt_of_cell? _ _ h1) (show ¬ S b from hs ⟨b, o, none⟩ hp)]
  exact h1

/-- The same, where nothing is asked of a slice without elements. -/
theorem Rd.ch0 {S : Nat → Prop} {k : IntKind} {w w' : World} {p : Option Addr} {n c : Nat} {xs : List Int} (h : Rd k w p n c xs) (hc : Ch S w w') (hs : ∀ a, p = some a → 0 < n → ¬ S a.block) : Rd k w' p n c xs := by
  by_cases h0 : 0 < n
  · exact h.ch hc fun a ha => hs a ha h0
  · exact ⟨h.len, h.cap, h.nil, fun hn => absurd hn h0⟩

theorem Grow.ch {w w' : World} {p p' : Option Addr} {c c' : Nat} (h : Grow w w' p c p' c') (S : Nat → Prop) (hs : ∀ a, p = some a → S a.block) : Ch S w w' := by
  rcases h with ⟨_, _, h⟩ | ⟨h, _⟩
  · refine ⟨h.os, h.tape, h.output, h.size, fun j hj hn => h.block j hj fun e => hn ?_⟩
    cases p with
    | none => cases e
    | some a => injection e with e; subst e; exact hs a rfl
  · exact ⟨h.os, h.tape, h.output, h.size, fun j hj _ => h.block j hj fun e => by cases e⟩

/-- One block's owner another. -/
def upO (own : Nat → Nat) (p : Option Addr) (t : Nat) : Nat → Nat := fun k => if p.map Addr.block = some k then t else own k

theorem upO_at (own : Nat → Nat) (a : Addr) (t : Nat) : upO own (some a) t a.block = t := if_pos rfl

/-- A file's memory: what is told and what lasts, in blocks of its own. -/
structure FM (w : World) (B : Nat) (own : Nat → Nat) (t : Nat) (f : Fl) (xs ys : List Int) : Prop where
  told : OwS .u8 5 w B f.tp f.tn f.tc xs
  lasts : OwS .u8 5 w B f.lp f.ln f.lc ys
  tg : ∀ a, f.tp = some a → own a.block = t
  lg : ∀ a, f.lp = some a → own a.block = t
  begins : f.cl = false → ys <+: xs
  apart : f.cl = true → ∀ a b, f.tp = some a → f.lp = some b → a.block ≠ b.block

theorem FM.ch {S : Nat → Prop} {w w' : World} {B : Nat} {own own' : Nat → Nat} {t : Nat} {f : Fl} {told lasts : List Int} (h : FM w B own t f told lasts) (hc : Ch S w w') (hs : ∀ k, own k = t → ¬ S k) (ho : ∀ k, k < w.heap.size → own' k = own k) : FM w' B own' t f told lasts :=
  ⟨h.told.ch hc fun a ha => hs _ (h.tg a ha), h.lasts.ch hc fun a ha => hs _ (h.lg a ha), fun a ha => (ho _ (h.told.lt ha).2).trans (h.tg a ha), fun a ha => (ho _ (h.lasts.lt ha).2).trans (h.lg a ha), h.begins, h.apart⟩

/-- Behind an append to what is told. -/
theorem FM.put {w w' : World} {B : Nat} {own : Nat → Nat} {t : Nat} {f : Fl} {told lasts ys : List Int} {p' : Option Addr} {n' c' : Nat} (h : FM w B own t f told lasts) (hg : Grow w w' f.tp f.tc p' c') (hn : OwS .u8 5 w' B p' n' c' (told ++ ys)) :
    FM w' B (upO own p' t) t { f with tp := p', tn := n', tc := c' } (told ++ ys) lasts ∧ (∀ k, k < w.heap.size → upO own p' t k = own k) := by
  have ho : ∀ k, k < w.heap.size → upO own p' t k = own k := by
    intro k hk
    unfold upO
    by_cases e : p'.map Addr.block = some k
    · rw [if_pos e]
      cases p' with
      | none => cases e
      | some a =>
        injection e with e
        rcases hg with ⟨e2, _, _⟩ | ⟨_, h2⟩
        · rw [← e, h.tg a e2.symm]
        · have := h2 a rfl; omega
    · rw [if_neg e]
  refine ⟨⟨hn, ?_, fun a ha => ?_, fun a ha => (ho _ (h.lasts.lt ha).2).trans (h.lg a ha), fun hc => ?_, fun hc a b ha hb => ?_⟩, ho⟩
  · show OwS .u8 5 w' B f.lp f.ln f.lc lasts
    rcases hg with ⟨e1, e2, hg⟩ | ⟨hg, _⟩
    · cases hl : f.lp with
      | none =>
        have := h.lasts
        rw [hl] at this
        exact this.same fun a ha => by cases ha
      | some b =>
        have hlo := h.lasts
        rw [hl] at hlo
        cases ht : f.tp with
        | none =>
          refine hlo.same fun a ha => hg.block _ (hlo.lt ha).2 ?_
          rw [ht]
          exact fun e => by cases e
        | some a =>
          by_cases hab : a.block = b.block
          · have hcl : f.cl = false := by
              cases hc : f.cl with
              | false => rfl
              | true => exact absurd hab (h.apart hc a b ht hl)
            have hbe := h.begins hcl
            have hto := h.told
            rw [ht] at hto
            have hb0 : b = a := by
              rcases hlo.2 with ⟨hv, _⟩ | ⟨g, _, _, hv, _⟩
              · cases hv
              rcases hto.2 with ⟨hv2, _⟩ | ⟨g2, _, _, hv2, _⟩
              · cases hv2
              injection hv with q1
              injection hv2 with q2
              injection q1 with q1
              injection q2 with q2
              rw [q1, q2] at hab ⊢
              dsimp only at hab
              rw [hab]
            subst hb0
            subst e1
            rw [ht] at hn
            exact hto.begin hn hlo (hbe.trans (List.prefix_append _ _)) e2
          · refine hlo.same fun a2 ha => hg.block _ (hlo.lt ha).2 ?_
            injection ha with ha
            subst ha
            rw [ht]
            exact fun e => hab (by injection e with e; exact e.symm)
    · exact h.lasts.same fun a ha => hg.block _ (h.lasts.lt ha).2 fun e => by cases e
  · have ha' : p' = some a := ha
    subst ha'
    exact upO_at own a t
  · exact (h.begins hc).trans (List.prefix_append _ _)
  · have ha' : p' = some a := ha
    have hb' : f.lp = some b := hb
    rcases hg with ⟨e1, _, _⟩ | ⟨_, h2⟩
    · exact h.apart hc a b (e1.symm.trans ha') hb'
    · have := h2 a ha'
      have := (h.lasts.lt hb').2
      omega

end Go.Proofs.YtpjhadaiodnnaaaGreat.M
end

section
namespace Go.Proofs.YtpjhadaiodnnaaaGreat.M
open Go.ChangeShapes Go.WideShapes Go.ChangeAt Go.RowKit

/-- A file: what is told, what lasts, whether it was cleared since. -/
structure PF where
  told : List Int
  lasts : List Int
  cl : Bool

/-- A disk. -/
structure PD where
  room : Nat
  down : Bool
  f : Nat → PF
  left : Nat
  keep : List Int

def upP (f : Nat → PF) (i : Nat) (x : PF) : Nat → PF := fun k => if k = i then x else f k
theorem upP_same (f : Nat → PF) (i : Nat) (x : PF) : upP f i x i = x := if_pos rfl
theorem upP_other (f : Nat → PF) {i k : Nat} (x : PF) (h : k ≠ i) : upP f i x k = f k := if_neg h

/-- The owner's mark of file i of disk a. -/
def mark (a i : Nat) : Nat := 8 * a + i + 1

/-- A disk's cells d in block g, and its memory, are what m says. -/
structure DA (w : World) (B : Nat) (own : Nat → Nat) (a g : Nat) (d : Dk) (m : PD) : Prop where
  dc : DC w g d
  room : d.room = m.room
  down : d.down = m.down
  left : d.left = m.left
  cl : ∀ i, i < 8 → (d.fl i).cl = (m.f i).cl
  fm : ∀ i, i < 8 → FM w B own (mark a i) (d.fl i) (m.f i).told (m.f i).lasts
  keep : Rd .i64 w d.kp d.kn d.kc m.keep
  og : own g = 0
  ok : ∀ x, d.kp = some x → own x.block = 0 ∧ x.block ≠ g ∧ x.block < w.heap.size
  bg : B ≤ g
  fr : ∀ k, w.heap.size ≤ k → own k = 0

/-- Carried over a change elsewhere. -/
theorem DA.ch {S : Nat → Prop} {w w' : World} {B : Nat} {own own' : Nat → Nat} {a g : Nat} {d : Dk} {m : PD} (h : DA w B own a g d m) (hc : Ch S w w') (hg : ¬ S g) (hs : ∀ i k, i < 8 → own k = mark a i → ¬ S k) (hk : ∀ x, d.kp = some x → ¬ S x.block)
    (ho : ∀ k, k < w.heap.size → own' k = own k) (hf : ∀ k, w'.heap.size ≤ k → own' k = 0) : DA w' B own' a g d m :=
  ⟨h.dc.ch hc hg, h.room, h.down, h.left, h.cl, fun i hi => (h.fm i hi).ch hc (fun k => hs i k hi) ho, h.keep.ch hc hk, (ho g h.dc.lt).trans h.og, fun x e => ⟨(ho _ (h.ok x e).2.2).trans (h.ok x e).1, (h.ok x e).2.1, Nat.lt_of_lt_of_le (h.ok x e).2.2 hc.size⟩, h.bg, hf⟩

/-- A cell of its own block set. -/
theorem DA.set {w : World} {B : Nat} {own : Nat → Nat} {a g : Nat} {d' : Dk} {m' : PD} (j : Nat) (v : Value) (hd : DC (w.setCell ⟨g, j, none⟩ v) g d') (h1 : d'.room = m'.room) (h2 : d'.down = m'.down) (h3 : d'.left = m'.left) (h4 : ∀ i, i < 8 → (d'.fl i).cl = (m'.f i).cl)
    (h5 : ∀ i, i < 8 → FM w B own (mark a i) (d'.fl i) (m'.f i).told (m'.f i).lasts) (h6 : Rd .i64 w d'.kp d'.kn d'.kc m'.keep) (h7 : own g = 0) (h8 : ∀ x, d'.kp = some x → own x.block = 0 ∧ x.block ≠ g ∧ x.block < w.heap.size) (h9 : B ≤ g) (h10 : ∀ k, w.heap.size ≤ k → own k = 0) : DA (w.setCell ⟨g, j, none⟩ v) B own a g d' m' := by
  have hc := Ch.setCell w ⟨g, j, none⟩ v
  refine ⟨hd, h1, h2, h3, h4, fun i hi => (h5 i hi).ch hc (fun k hk e => ?_) (fun _ _ => rfl), h6.ch hc fun x e => (h8 x e).2.1, h7, fun x e => ⟨(h8 x e).1, (h8 x e).2.1, Nat.lt_of_lt_of_le (h8 x e).2.2 hc.size⟩, h9, fun k hk => h10 k (Nat.le_trans hc.size hk)⟩
  subst e
  rw [show own k = 0 from h7] at hk
  unfold mark at hk
  omega

theorem fl_tn {w : World} {B : Nat} {own : Nat → Nat} {a g : Nat} {d : Dk} {m : PD} (h : DA w B own a g d m) {i : Nat} (hi : i < 8) : (d.fl i).tn = (m.f i).told.length := (h.fm i hi).told.len.symm

theorem infoU8 : (Tryz.prog.info? 5).map (fun i => (i.zero, i.size, i.bytes)) = some (some (.int .u8 0), 1, 1) := by kernel_rfl

/-- What an append to file i leaves. -/
theorem DA.put {w w' : World} {B : Nat} {own : Nat → Nat} {a g : Nat} {d : Dk} {m : PD} (h : DA w B own a g d m) {i : Nat} (hi : i < 8) {ys : List Int} {p' : Option Addr} {n' c' : Nat}
    (hg : Grow w w' (d.fl i).tp (d.fl i).tc p' c') (hn : OwS .u8 5 w' B p' n' c' ((m.f i).told ++ ys)) :
    DA (w'.setCell ⟨g, 2 + i * 3, none⟩ (.slice p' n' c')) B (upO own p' (mark a i)) a g { d with fl := upF d.fl i { d.fl i with tp := p', tn := n', tc := c' } } { m with f := upP m.f i { m.f i with told := (m.f i).told ++ ys } }
    ∧ (∀ k, k < w.heap.size → upO own p' (mark a i) k = own k) ∧ Ch (fun k => k = g ∨ own k = mark a i) w (w'.setCell ⟨g, 2 + i * 3, none⟩ (.slice p' n' c')) := by
  obtain ⟨hfi, ho⟩ := (h.fm i hi).put hg hn
  have hc := hg.ch (fun k => own k = mark a i) fun x hx => (h.fm i hi).tg x hx
  have hg0 : ¬ own g = mark a i := by rw [h.og]; unfold mark; omega
  have hdc := h.dc.ch hc hg0
  have hfr : ∀ k, w'.heap.size ≤ k → upO own p' (mark a i) k = 0 := by
    intro k hk
    unfold upO
    rw [if_neg fun e => ?_]
    · exact h.fr k (Nat.le_trans hc.size hk)
    · cases p' with
      | none => cases e
      | some x =>
        injection e with e
        have := (hn.lt rfl).2
        omega
  refine ⟨?_, ho, (hc.mono fun k _ e => Or.inr e).trans ((Ch.setCell w' ⟨g, 2 + i * 3, none⟩ _).mono fun k _ e => Or.inl e)⟩
  refine DA.set (2 + i * 3) _ (hdc.setTold hi p' n' c') h.room h.down h.left (fun j hj => ?_) (fun j hj => ?_) (h.keep.ch hc fun x e => ?_) ((ho g h.dc.lt).trans h.og) (fun x e => ⟨(ho _ (h.ok x e).2.2).trans (h.ok x e).1, (h.ok x e).2.1, Nat.lt_of_lt_of_le (h.ok x e).2.2 hc.size⟩) h.bg hfr
  · show (upF d.fl i _ j).cl = (upP m.f i _ j).cl
    by_cases e : j = i
    · subst e
      rw [upF_same, upP_same]
      exact h.cl j hj
    · rw [upF_other _ _ e, upP_other _ _ e]
      exact h.cl j hj
  · show FM w' B _ (mark a j) (upF d.fl i _ j) (upP m.f i _ j).told (upP m.f i _ j).lasts
    by_cases e : j = i
    · subst e
      rw [upF_same, upP_same]
      exact hfi
    · rw [upF_other _ _ e, upP_other _ _ e]
      refine (h.fm j hj).ch hc (fun k hk hk2 => ?_) ho
      rw [hk] at hk2
      unfold mark at hk2
      omega
  · rw [(h.ok x e).1]
    unfold mark
    omega

set_option maxRecDepth 20000 in
theorem dput_any (w : World) (B : Nat) (own : Nat → Nat) (a g : Nat) (d : Dk) (m : PD) (h : DA w B own a g d m) (i : Nat) (hi : i < 8) (hB : B ≤ w.heap.size) (q : Option Addr) (l c : Nat) (ys : List Int) (hr : Rd .u8 w q l c ys) (hn : (m.f i).told.length + l ≤ 1099511627776) :
    Calls Tryz.prog 86 #[.pointer (some ⟨g, 2 + i * 3, none⟩), .slice q l c] w fun e w' => e = .returned (.tuple #[]) ∧ ∃ own' d', DA w' B own' a g d' { m with f := upP m.f i { m.f i with told := (m.f i).told ++ ys } } ∧ (∀ k, k < w.heap.size → own' k = own k) ∧ Ch (fun k => k = g ∨ own k = mark a i) w w' := by
  obtain ⟨i0, hi0, hz0, hz1, hz2⟩ := info_parts infoU8
  have hct := h.dc.told hi
  have htn := fl_tn h hi
  have hto := (h.fm i hi).told
  have HP := fun w' p' n' c' (hg : Grow w w' (d.fl i).tp (d.fl i).tc p' c') (hn : OwS .u8 5 w' B p' n' c' ((m.f i).told ++ ys)) => h.put hi hg hn
  have HC := fun w' p' c' (hg : Grow w w' (d.fl i).tp (d.fl i).tc p' c') => (h.dc.ch (hg.ch (fun k => own k = mark a i) fun x hx => (h.fm i hi).tg x hx) (by rw [h.og]; unfold mark; omega))
  rw [← htn] at hn
  generalize hfl : d.fl i = fl at *
  obtain ⟨tp, tn, tc, lp, ln, lc, cl⟩ := fl
  dsimp only at *
  clear htn
  go_enter Tryz.func86, Tryz.ntmps86
  go_wp2_with (refine wpList_app2 _ rfl (.tmp 8) (.tmp 9) 40 rfl .u8 5 i0 (.int .u8 0) 1 Tryz.underlying40 hi0 hz0 hz1 hz2 rfl B tp tn tc (m.f i).told rfl hto q l c ys rfl hr ?c1 ?c2 hB ?_)
  case c1 => omega
  case c2 => unfold maxLen; omega
  intro p' c' w' ho hg
  have hdc := HC w' p' c' hg
  have hct2 := hdc.told hi
  have hf2 := hdc.free (2 + i * 3)
  obtain ⟨h1, h2, h3⟩ := HP w' p' _ c' hg ho
  clear HP HC hdc hg ho hto hct hr h
  rw [hfl] at hct2
  dsimp only at hct2
  go_wp2_with fail
  go_end0
  exact ⟨rfl, _, _, h1, h2, h3⟩

/-- Its own block changed, all else as it was. -/
theorem DA.mend {w w' : World} {B : Nat} {own : Nat → Nat} {a g : Nat} {d' : Dk} {m' : PD} (hc : Ch (fun k => k = g) w w') (hd : DC w' g d') (h1 : d'.room = m'.room) (h2 : d'.down = m'.down) (h3 : d'.left = m'.left) (h4 : ∀ i, i < 8 → (d'.fl i).cl = (m'.f i).cl)
    (h5 : ∀ i, i < 8 → FM w B own (mark a i) (d'.fl i) (m'.f i).told (m'.f i).lasts) (h6 : Rd .i64 w d'.kp d'.kn d'.kc m'.keep) (h7 : own g = 0) (h8 : ∀ x, d'.kp = some x → own x.block = 0 ∧ x.block ≠ g ∧ x.block < w.heap.size) (h9 : B ≤ g) (h10 : ∀ k, w.heap.size ≤ k → own k = 0) : DA w' B own a g d' m' := by
  refine ⟨hd, h1, h2, h3, h4, fun i hi => (h5 i hi).ch hc (fun k hk e => ?_) (fun _ _ => rfl), h6.ch hc fun x e => (h8 x e).2.1, h7, fun x e => ⟨(h8 x e).1, (h8 x e).2.1, Nat.lt_of_lt_of_le (h8 x e).2.2 hc.size⟩, h9, fun k hk => h10 k (Nat.le_trans hc.size hk)⟩
  subst e
  rw [show own k = 0 from h7] at hk
  unfold mark at hk
  omega

theorem upF_up (fl : Nat → Fl) (i : Nat) (f f' : Fl) : upF (upF fl i f) i f' = upF fl i f' := by
  funext k
  unfold upF
  by_cases e : k = i
  · rw [if_pos e, if_pos e]
  · rw [if_neg e, if_neg e, if_neg e]

/-- One file's cells changed. -/
theorem DA.file {w w' : World} {B : Nat} {own : Nat → Nat} {a g : Nat} {d : Dk} {m : PD} (h : DA w B own a g d m) {i : Nat} (hi : i < 8) (f : Fl) (x : PF) (hc : Ch (fun k => k = g) w w') (hd : DC w' g { d with fl := upF d.fl i f }) (hcl : f.cl = x.cl) (hf : FM w B own (mark a i) f x.told x.lasts) :
    DA w' B own a g { d with fl := upF d.fl i f } { m with f := upP m.f i x } := by
  refine DA.mend hc hd h.room h.down h.left (fun j hj => ?_) (fun j hj => ?_) h.keep h.og h.ok h.bg h.fr
  · show (upF d.fl i f j).cl = (upP m.f i x j).cl
    by_cases e : j = i
    · rw [e, upF_same, upP_same]; exact hcl
    · rw [upF_other _ _ e, upP_other _ _ e]; exact h.cl j hj
  · show FM w B own (mark a j) (upF d.fl i f j) (upP m.f i x j).told (upP m.f i x j).lasts
    by_cases e : j = i
    · subst e; rw [upF_same, upP_same]; exact hf
    · rw [upF_other _ _ e, upP_other _ _ e]; exact h.fm j hj

theorem Ch.cells2 (w : World) (g i j : Nat) (u v : Value) : Ch (fun k => k = g) w ((w.setCell ⟨g, i, none⟩ u).setCell ⟨g, j, none⟩ v) := (Ch.setCell w ⟨g, i, none⟩ u).trans (Ch.setCell _ ⟨g, j, none⟩ v)

set_option maxRecDepth 20000 in
theorem clear_any (w : World) (B : Nat) (own : Nat → Nat) (a g : Nat) (d : Dk) (m : PD) (h : DA w B own a g d m) (i : Nat) (hi : i < 8) :
    Calls Tryz.prog 98 #[.pointer (some ⟨g, 2 + i * 3, none⟩)] w fun e w' => e = .returned (.tuple #[]) ∧ ∃ d', DA w' B own a g d' { m with f := upP m.f i ⟨[], (m.f i).lasts, true⟩ } ∧ Ch (fun k => k = g) w w' := by
  have hct := h.dc.told hi
  have hcc := h.dc.cl hi
  have hf0 := h.dc.free (2 + i * 3)
  have hf2 := h.dc.free (2 + i * 3 + 2)
  have hd := (h.dc.setTold hi none 0 0).setCl hi true
  dsimp only at hd
  rw [upF_same, upF_up] at hd
  dsimp only at hd
  have hfm := h.fm i hi
  have hfin := h.file hi _ ⟨[], (m.f i).lasts, true⟩ (Ch.cells2 w g (2 + i * 3) (2 + i * 3 + 2) (.slice none 0 0) (.bool true)) hd rfl ⟨OwS.nil _ _ _ _, hfm.lasts, (fun _ e => by cases e), hfm.lg, (fun e => by cases e), (fun _ _ _ e => by cases e)⟩
  have hcc2 : (w.setCell ⟨g, 2 + i * 3, none⟩ (.slice none 0 0)).cell? ⟨g, 2 + i * 3 + 2, none⟩ = some (.bool (d.fl i).cl) := by
    rw [World.cell?_setCell_other (h := fun e => absurd (congrArg Addr.off e) (by simp))]; exact hcc
  clear hd hfm h hcc
  generalize d.fl i = fl at *
  obtain ⟨tp, tn, tc, lp, ln, lc, cl⟩ := fl
  dsimp only at *
  go_enter Tryz.func98, Tryz.ntmps98
  go_wp2_with fail
  go_end0
  exact ⟨rfl, _, hfin, Ch.cells2 _ _ _ _ _ _⟩

set_option maxRecDepth 20000 in
theorem sync_any (w : World) (B : Nat) (own : Nat → Nat) (a g : Nat) (d : Dk) (m : PD) (h : DA w B own a g d m) (i : Nat) (hi : i < 8) :
    Calls Tryz.prog 70 #[.pointer (some ⟨g, 2 + i * 3, none⟩)] w fun e w' => e = .returned (.tuple #[]) ∧ ∃ d', DA w' B own a g d' { m with f := upP m.f i ⟨(m.f i).told, (m.f i).told, false⟩ } ∧ Ch (fun k => k = g) w w' := by
  have hct := h.dc.told hi
  have hcl := h.dc.lasts hi
  have hcc := h.dc.cl hi
  have hf0 := h.dc.free (2 + i * 3 + 1)
  have hf2 := h.dc.free (2 + i * 3 + 2)
  have hd := (h.dc.setLasts hi (d.fl i).tp (d.fl i).tn (d.fl i).tc).setCl hi false
  dsimp only at hd
  rw [upF_same, upF_up] at hd
  dsimp only at hd
  have hfm := h.fm i hi
  have hfin := h.file hi _ ⟨(m.f i).told, (m.f i).told, false⟩ (Ch.cells2 w g (2 + i * 3 + 1) (2 + i * 3 + 2) (.slice (d.fl i).tp (d.fl i).tn (d.fl i).tc) (.bool false)) hd rfl ⟨hfm.told, hfm.told, hfm.tg, hfm.tg, (fun _ => List.prefix_refl _), (fun e => by cases e)⟩
  have hcc2 : (w.setCell ⟨g, 2 + i * 3 + 1, none⟩ (.slice (d.fl i).tp (d.fl i).tn (d.fl i).tc)).cell? ⟨g, 2 + i * 3 + 2, none⟩ = some (.bool (d.fl i).cl) := by
    rw [World.cell?_setCell_other (h := fun e => absurd (congrArg Addr.off e) (by simp))]; exact hcc
  clear hd hfm h hcc
  generalize d.fl i = fl at *
  obtain ⟨tp, tn, tc, lp, ln, lc, cl⟩ := fl
  dsimp only at *
  go_enter Tryz.func70, Tryz.ntmps70
  go_wp2_with fail
  go_end0
  exact ⟨rfl, _, hfin, Ch.cells2 _ _ _ _ _ _⟩

end Go.Proofs.YtpjhadaiodnnaaaGreat.M
end

section
namespace Go.Proofs.YtpjhadaiodnnaaaGreat.M
open Go.ChangeShapes Go.WideShapes Go.ChangeAt Go.RowKit

theorem wp_nil {P : Program} {op : Oper} {a : Act} {w : World} {K : Act → World → Prop} {Q : Exit → Act → World → Prop} (x : Operand) (ho : op.op = .nilCheck x) (ad : Addr) (hx : a.eval x = .pointer (some ad)) (h : K (a.put op.dst (.pointer (some ad))) w) : op.wp P a w K Q := by
  unfold Oper.wp execOp
  simp [ho, hx]
  exact h

theorem wp_store_slice {P : Program} {op : Oper} {a : Act} {w : World} {K : Act → World → Prop} {Q : Exit → Act → World → Prop} (ty : TypeId) (x y : Operand) (ho : op.op = .store ty x y) (b o : Nat) (p : Option Addr) (n c : Nat) (u : Value)
    (hx : a.eval x = .pointer (some ⟨b, o, none⟩)) (hy : a.eval y = .slice p n c) (hsz : (P.info? ty).map (·.size) = some 1) (hc : w.cell? ⟨b, o, none⟩ = some u) (hf : w.frozen? ⟨b, o, none⟩ = false)
    (h : K (a.put op.dst undef) (w.setCell ⟨b, o, none⟩ (.slice p n c))) : op.wp P a w K Q := by
  have hrun : (storeVar ty ⟨b, o, none⟩ (.slice p n c)).run P w = .ok () (w.setCell ⟨b, o, none⟩ (.slice p n c)) := by
    have := run_storeCells_cells (P := P) b o [.slice p n c] 0 w (fun j hj => by
        match j, hj with
        | 0, _ => rw [Nat.add_zero, hc]; rfl) (fun j hj => by
        match j, hj with
        | 0, _ => exact hf) (fun u hu => by rw [List.mem_singleton.1 hu]; rfl)
    cases hq : P.info? ty with
    | none => simp [hq] at hsz
    | some i =>
      have hs : i.size = 1 := by simpa [hq] using hsz
      simp only [Nat.add_zero] at this
      simp [storeVar, sizeOf, typeInfo, hq, Value.cells, hs, this, World.setCells]
  unfold Oper.wp execOp
  simp only [ho, hx, hy, Instr.storeAt, Instr.sureAddr, Sem.run_bind, Sem.run_pure, Result.andThen_ok, hrun]
  exact h

theorem sizeSl : (Tryz.prog.info? 40).map (·.size) = some 1 := by kernel_rfl

set_option maxRecDepth 20000 in
theorem sync_dc (w : World) (g : Nat) (d : Dk) (h : DC w g d) (i : Nat) (hi : i < 8) :
    Calls Tryz.prog 70 #[.pointer (some ⟨g, 2 + i * 3, none⟩)] w fun e w' => e = .returned (.tuple #[]) ∧ Ch (fun k => k = g) w w' ∧ DC w' g { d with fl := upF d.fl i ⟨(d.fl i).tp, (d.fl i).tn, (d.fl i).tc, (d.fl i).tp, (d.fl i).tn, (d.fl i).tc, false⟩ } := by
  have hct := h.told hi
  have hcl := h.lasts hi
  have hcc := h.cl hi
  have hf0 := h.free (2 + i * 3 + 1)
  have hf2 := h.free (2 + i * 3 + 2)
  have hd := (h.setLasts hi (d.fl i).tp (d.fl i).tn (d.fl i).tc).setCl hi false
  dsimp only at hd
  rw [upF_same, upF_up] at hd
  dsimp only at hd
  have hcc2 : (w.setCell ⟨g, 2 + i * 3 + 1, none⟩ (.slice (d.fl i).tp (d.fl i).tn (d.fl i).tc)).cell? ⟨g, 2 + i * 3 + 2, none⟩ = some (.bool (d.fl i).cl) := by
    rw [World.cell?_setCell_other (h := fun e => absurd (congrArg Addr.off e) (by simp))]; exact hcc
  clear h hcc
  generalize d.fl i = fl at *
  obtain ⟨tp, tn, tc, lp, ln, lc, cl⟩ := fl
  dsimp only at *
  go_enter Tryz.func70, Tryz.ntmps70
  go_wp2_with fail
  go_end0
  exact ⟨rfl, Ch.cells2 _ _ _ _ _ _, hd⟩

set_option maxRecDepth 20000 in
theorem crash_low (w : World) (g : Nat) (d : Dk) (h : DC w g d) (i : Nat) (hi : i < 8) (k : Int) (hk : k < 0) :
    Calls Tryz.prog 81 #[.pointer (some ⟨g, 2 + i * 3, none⟩), .int .i64 k] w fun e w' => e = .returned (.tuple #[]) ∧ Ch (fun k => k = g) w w' ∧ DC w' g { d with fl := upF d.fl i ⟨(d.fl i).lp, (d.fl i).ln, (d.fl i).lc, (d.fl i).lp, (d.fl i).ln, (d.fl i).lc, false⟩ } := by
  have hct := h.told hi
  have hcl := h.lasts hi
  have hcc := h.cl hi
  have hf0 := h.free (2 + i * 3)
  have hd := h.setTold hi (d.fl i).lp (d.fl i).ln (d.fl i).lc
  have hS := sync_dc _ g _ hd i hi
  dsimp only at hS
  rw [upF_same, upF_up] at hS
  dsimp only at hS
  clear h hd
  generalize d.fl i = fl at *
  obtain ⟨tp, tn, tc, lp, ln, lc, cl⟩ := fl
  dsimp only at *
  have hc0 := Ch.setCell w ⟨g, 2 + i * 3, none⟩ (.slice lp ln lc)
  cases cl with
  | true =>
    go_enter Tryz.func81, Tryz.ntmps81
    go_wp2_with fail
    refine hS.mono ?_
    rintro e w1 ⟨rfl, h1, h2⟩
    go_wp2_with fail
    go_end0
    exact ⟨rfl, hc0.trans h1, h2⟩
  | false =>
    go_enter Tryz.func81, Tryz.ntmps81
    go_wp2_with fail
    refine hS.mono ?_
    rintro e w1 ⟨rfl, h1, h2⟩
    go_wp2_with fail
    go_end0
    exact ⟨rfl, hc0.trans h1, h2⟩

theorem wr_eq {x : Int} {n : Nat} (h : x = (n : Int)) (hn : n ≤ 1099511627776) : IntKind.i64.wrap x = (n : Int) := by
  subst h
  rw [IntKind.wrap_i64]
  omega

def CS (w : World) (g i : Nat) (tp : Option Addr) (tn tc : Nat) (d : Dk) (V : World) : Prop := V.cell? ⟨g, 2 + i * 3, none⟩ = some (.slice tp tn tc) ∧ V.frozen? ⟨g, 2 + i * 3, none⟩ = false ∧ DC V g d ∧ Below w.heap.size w V

theorem CS.stays (w : World) (g i : Nat) (tp : Option Addr) (tn tc : Nat) (d : Dk) : Stays (CS w g i tp tn tc d) := fun V V' hV hb =>
  have hlt := hV.2.2.1.lt
  ⟨by rw [hb.cell (p := ⟨g, 2 + i * 3, none⟩) hlt]; exact hV.1, by rw [hb.frozen (p := ⟨g, 2 + i * 3, none⟩) hlt]; exact hV.2.1, hV.2.2.1.below hb hlt, hV.2.2.2.trans (hb.mono hV.2.2.2.size)⟩

set_option linter.unusedSimpArgs false in
set_option maxRecDepth 20000 in
set_option maxHeartbeats 1000000 in
theorem crash_high (w : World) (g : Nat) (d : Dk) (h : DC w g d) (i : Nat) (hi : i < 8) (k : Nat) (s : Nat) (hs : s = if (d.fl i).cl then 0 else (d.fl i).ln) (hsn : s ≤ (d.fl i).tn) (hnc : (d.fl i).tn ≤ (d.fl i).tc) (hn : (d.fl i).tn ≤ 1099511627776) (hnil : (d.fl i).tp = none → (d.fl i).tc = 0) :
    Calls Tryz.prog 81 #[.pointer (some ⟨g, 2 + i * 3, none⟩), .int .i64 k] w fun e w' => e = .returned (.tuple #[]) ∧ Ch (fun k => k = g) w w' ∧ DC w' g { d with fl := upF d.fl i ⟨(d.fl i).tp, s + min k ((d.fl i).tn - s), (d.fl i).tc, (d.fl i).tp, s + min k ((d.fl i).tn - s), (d.fl i).tc, false⟩ } := by
  have hct := h.told hi
  have hcl := h.lasts hi
  have hcc := h.cl hi
  have hf0 := h.free (2 + i * 3)
  generalize hfl : d.fl i = fl at *
  obtain ⟨tp, tn, tc, lp, ln, lc, cl⟩ := fl
  dsimp only at *
  obtain ⟨D, hD⟩ : ∃ D, D = tn - s := ⟨_, rfl⟩
  obtain ⟨mm, hm⟩ : ∃ mm, mm = min k D := ⟨_, rfl⟩
  obtain ⟨z, hz0⟩ : ∃ z, z = s + mm := ⟨_, rfl⟩
  have hz : z = s + min k (tn - s) := by rw [hz0, hm, hD]
  rw [← hz]
  have HD : Hid (D = tn - s) := hD
  have HM : Hid (mm = min k D) := hm
  have HZ : Hid (z = s + mm) := hz0
  have hDb : D ≤ 1099511627776 := by omega
  have hmb : mm ≤ D := by omega
  have hzc : z ≤ tc := by omega
  have hzb : z ≤ 1099511627776 := by omega
  clear hz hz0 hm hD
  have hS5 : CS w g i tp tn tc d w.drew := CS.stays w g i tp tn tc d w _ ⟨hct, hf0, h, Below.refl _ _⟩ (Below.refl _ _).drew
  cases cl with
  | true =>
    obtain rfl : 0 = s := hs.symm
    clear hs
    obtain ⟨cl0, hcl0⟩ : ∃ c, c = true := ⟨_, rfl⟩
    have hU : ∀ V, DC V g d → DC (V.setCell ⟨g, 2 + i * 3, none⟩ (.slice tp z tc)) g { d with fl := upF d.fl i ⟨tp, z, tc, lp, ln, lc, cl0⟩ } := by
      intro V hV
      have := hV.setTold hi tp z tc
      rw [hfl, ← hcl0] at this
      exact this
    clear hcl0
    go_enter Tryz.func81, Tryz.ntmps81
    go_wp2_with fail
    clear hct hcl hcc hf0
    refine wp_region_det [0, 1, 2, 3, 4, 5, 6, 7, 8, 9, 10, 11, 12, 13, 14, 15, 16, 18] (CS w g i tp tn tc d) (CS w g i tp tn tc d) (by kernel_rfl) hS5 ?_
    refine wpDet_take ?vA0 (CS.stays w g i tp tn tc d) (fun _ h => h) (i := 0) rfl (by kernel_rfl) (by kernel_rfl) (by kernel_rfl) (by kernel_rfl) (fun _ _ _ h => h) (Gives.value (by rfl) ?yA0) ?rA0
    case yA0 => (intro w' hSw; (try dsimp only at hSw); go_simp; try with_reducible rfl)
    (try simp only [Act.put, List.getElem_toArray, List.getElem_cons_zero, List.getElem_cons_succ, List.setIfInBounds_toArray, List.set_cons_zero, List.set_cons_succ])
    refine wpDet_take ?vA1 (CS.stays w g i tp tn tc d) (fun _ h => h) (i := 1) rfl (by kernel_rfl) (by kernel_rfl) (by kernel_rfl) (by kernel_rfl) (fun _ _ _ h => h) (Gives.value (by rfl) ?yA1) ?rA1
    case yA1 => (intro w' hSw; (try dsimp only at hSw); go_simp; try with_reducible rfl)
    (try simp only [Act.put, List.getElem_toArray, List.getElem_cons_zero, List.getElem_cons_succ, List.setIfInBounds_toArray, List.set_cons_zero, List.set_cons_succ])
    refine wpDet_take ?vA2 (CS.stays w g i tp tn tc d) (fun _ h => h) (i := 2) rfl (by kernel_rfl) (by kernel_rfl) (by kernel_rfl) (by kernel_rfl) (fun _ _ _ h => h) (Gives.value (by rfl) ?yA2) ?rA2
    case yA2 => (intro w' hSw; (try dsimp only at hSw); go_simp; try with_reducible rfl)
    (try simp only [Act.put, List.getElem_toArray, List.getElem_cons_zero, List.getElem_cons_succ, List.setIfInBounds_toArray, List.set_cons_zero, List.set_cons_succ])
    refine wpDet_take ?vA3 (CS.stays w g i tp tn tc d) (fun _ h => h) (i := 3) rfl (by kernel_rfl) (by kernel_rfl) (by kernel_rfl) (by kernel_rfl) (fun _ _ _ h => h) (Gives.value (by rfl) ?yA3) ?rA3
    case yA3 => (intro w' hSw; (try dsimp only at hSw); go_simp; try with_reducible rfl)
    (try simp only [Act.put, List.getElem_toArray, List.getElem_cons_zero, List.getElem_cons_succ, List.setIfInBounds_toArray, List.set_cons_zero, List.set_cons_succ])
    refine wpDet_take ?vA4 (CS.stays w g i tp tn tc d) (fun _ h => h) (i := 4) rfl (by kernel_rfl) (by kernel_rfl) (by kernel_rfl) (by kernel_rfl) (fun _ _ _ h => h) (Gives.value (by rfl) ?yA4) ?rA4
    case yA4 => (intro w' hSw; have hq0 := hSw.1; (try dsimp only at hSw); go_simp; try with_reducible rfl)
    (try simp only [Act.put, List.getElem_toArray, List.getElem_cons_zero, List.getElem_cons_succ, List.setIfInBounds_toArray, List.set_cons_zero, List.set_cons_succ])
    refine wpDet_take ?vA5 (CS.stays w g i tp tn tc d) (fun _ h => h) (i := 5) rfl (by kernel_rfl) (by kernel_rfl) (by kernel_rfl) (by kernel_rfl) (fun _ _ _ h => h) (Gives.value (by rfl) ?yA5) ?rA5
    case yA5 => (intro w' hSw; (try dsimp only at hSw); go_simp; try with_reducible rfl)
    (try simp only [Act.put, List.getElem_toArray, List.getElem_cons_zero, List.getElem_cons_succ, List.setIfInBounds_toArray, List.set_cons_zero, List.set_cons_succ])
    refine wpDet_take ?vA6 (CS.stays w g i tp tn tc d) (fun _ h => h) (i := 6) rfl (by kernel_rfl) (by kernel_rfl) (by kernel_rfl) (by kernel_rfl) (fun _ _ _ h => h) (Gives.value (by rfl) ?yA6) ?rA6
    case yA6 => (intro w' hSw; (try dsimp only at hSw); go_simp; try with_reducible rfl)
    (try simp only [Act.put, List.getElem_toArray, List.getElem_cons_zero, List.getElem_cons_succ, List.setIfInBounds_toArray, List.set_cons_zero, List.set_cons_succ])
    refine wpDet_take ?vA7 (CS.stays w g i tp tn tc d) (fun _ h => h) (i := 7) rfl (by kernel_rfl) (by kernel_rfl) (by kernel_rfl) (by kernel_rfl) (fun _ _ _ h => h) (Gives.value (by rfl) ?yA7) ?rA7
    case yA7 => (intro w' hSw; (try dsimp only at hSw); go_simp; try with_reducible rfl)
    (try simp only [Act.put, List.getElem_toArray, List.getElem_cons_zero, List.getElem_cons_succ, List.setIfInBounds_toArray, List.set_cons_zero, List.set_cons_succ])
    refine wpDet_take ?vA8 (CS.stays w g i tp tn tc d) (fun _ h => h) (i := 8) rfl (by kernel_rfl) (by kernel_rfl) (by kernel_rfl) (by kernel_rfl) (fun _ _ _ h => h) (Gives.value (by rfl) ?yA8) ?rA8
    case yA8 => (intro w' hSw; (try dsimp only at hSw); go_simp; try with_reducible rfl)
    (try simp only [Act.put, List.getElem_toArray, List.getElem_cons_zero, List.getElem_cons_succ, List.setIfInBounds_toArray, List.set_cons_zero, List.set_cons_succ])
    refine wpDet_take ?vA9 (CS.stays w g i tp tn tc d) (fun _ h => h) (i := 9) rfl (by kernel_rfl) (by kernel_rfl) (by kernel_rfl) (by kernel_rfl) (fun _ _ _ h => h) (Gives.value (by rfl) ?yA9) ?rA9
    case yA9 => (intro w' hSw; (try dsimp only at hSw); go_simp; try with_reducible rfl)
    (try simp only [Act.put, List.getElem_toArray, List.getElem_cons_zero, List.getElem_cons_succ, List.setIfInBounds_toArray, List.set_cons_zero, List.set_cons_succ])
    refine wpDet_take ?vA10 (CS.stays w g i tp tn tc d) (fun _ h => h) (i := 10) rfl (by kernel_rfl) (by kernel_rfl) (by kernel_rfl) (by kernel_rfl) (fun _ _ _ h => h) (Gives.value (by rfl) ?yA10) ?rA10
    case yA10 => (intro w' hSw; have hq0 := hSw.1; (try dsimp only at hSw); go_simp; try with_reducible rfl)
    (try simp only [Act.put, List.getElem_toArray, List.getElem_cons_zero, List.getElem_cons_succ, List.setIfInBounds_toArray, List.set_cons_zero, List.set_cons_succ])
    refine wpDet_take ?vA11 (CS.stays w g i tp tn tc d) (fun _ h => h) (i := 11) rfl (by kernel_rfl) (by kernel_rfl) (by kernel_rfl) (by kernel_rfl) (fun _ _ _ h => h) (Gives.value (by rfl) ?yA11) ?rA11
    case yA11 => (intro w' hSw; (try dsimp only at hSw); go_simp; try with_reducible rfl)
    (try simp only [Act.put, List.getElem_toArray, List.getElem_cons_zero, List.getElem_cons_succ, List.setIfInBounds_toArray, List.set_cons_zero, List.set_cons_succ])
    refine wpDet_take ?vA12 (CS.stays w g i tp tn tc d) (fun _ h => h) (i := 12) rfl (by kernel_rfl) (by kernel_rfl) (by kernel_rfl) (by kernel_rfl) (fun _ _ _ h => h) (Gives.value (by rfl) ?yA12) ?rA12
    case yA12 => (intro w' hSw; (try dsimp only at hSw); go_simp; try with_reducible rfl)
    (try simp only [Act.put, List.getElem_toArray, List.getElem_cons_zero, List.getElem_cons_succ, List.setIfInBounds_toArray, List.set_cons_zero, List.set_cons_succ])
    refine wpDet_take (.int .i64 (D : Int)) (CS.stays w g i tp tn tc d) (fun _ h => h) (i := 13) rfl (by kernel_rfl) (by kernel_rfl) (by kernel_rfl) (by kernel_rfl) (fun _ _ _ h => h) (Gives.value (by rfl) ?yA13) ?rA13
    case yA13 => (intro w' hSw; (try dsimp only at hSw); go_simp; exact wr_eq (by have := HD.out; omega) (by omega))
    (try simp only [Act.put, List.getElem_toArray, List.getElem_cons_zero, List.getElem_cons_succ, List.setIfInBounds_toArray, List.set_cons_zero, List.set_cons_succ])
    refine wpDet_take (.int .i64 (mm : Int)) (CS.stays w g i tp tn tc d) (fun _ h => h) (i := 14) rfl (by kernel_rfl) (by kernel_rfl) (by kernel_rfl) (by kernel_rfl) (fun _ _ _ h => h) (Gives.value (by rfl) ?yA14) ?rA14
    case yA14 => (intro w' hSw; (try dsimp only at hSw); go_simp; (have h1 := HM.out; split <;> omega))
    (try simp only [Act.put, List.getElem_toArray, List.getElem_cons_zero, List.getElem_cons_succ, List.setIfInBounds_toArray, List.set_cons_zero, List.set_cons_succ])
    refine wpDet_take (.int .i64 (z : Int)) (CS.stays w g i tp tn tc d) (fun _ h => h) (i := 15) rfl (by kernel_rfl) (by kernel_rfl) (by kernel_rfl) (by kernel_rfl) (fun _ _ _ h => h) (Gives.value (by rfl) ?yA15) ?rA15
    case yA15 => (intro w' hSw; (try dsimp only at hSw); go_simp; exact wr_eq (by have := HZ.out; omega) (by omega))
    (try simp only [Act.put, List.getElem_toArray, List.getElem_cons_zero, List.getElem_cons_succ, List.setIfInBounds_toArray, List.set_cons_zero, List.set_cons_succ])
    refine wpDet_take (.slice tp z tc) (CS.stays w g i tp tn tc d) (fun _ h => h) (i := 16) rfl (by kernel_rfl) (by kernel_rfl) (by kernel_rfl) (by kernel_rfl) (fun _ _ _ h => h) (Gives.value (by rfl) ?yA16) ?rA16
    case yA16 => (intro w' hSw; (try dsimp only at hSw); go_simp; try (intro hh; exfalso; omega))
    (try simp only [Act.put, List.getElem_toArray, List.getElem_cons_zero, List.getElem_cons_succ, List.setIfInBounds_toArray, List.set_cons_zero, List.set_cons_succ])
    refine wpDet_ready (rs := [17]) (by kernel_rfl) (by simp) (AllDet.cons rfl (fun V hV K hK => ?_) AllDet.nil)
    rw [if_pos (by rfl)]
    refine wp_nil _ rfl _ rfl ?_
    refine hK.out (CS w g i tp tn tc d) _ _ (CS.stays w g i tp tn tc d) (fun _ _ h => h) hV ?_
    clear hK K hV
    (try simp only [Act.put, List.getElem_toArray, List.getElem_cons_zero, List.getElem_cons_succ, List.setIfInBounds_toArray, List.set_cons_zero, List.set_cons_succ])
    refine wpDet_take ?vA18 (CS.stays w g i tp tn tc d) (fun _ h => h) (i := 18) rfl (by kernel_rfl) (by kernel_rfl) (by kernel_rfl) (by kernel_rfl) (fun _ _ _ h => h) (Gives.value (by rfl) ?yA18) ?rA18
    case yA18 => (intro w' hSw; (try dsimp only at hSw); go_simp; try with_reducible rfl)
    (try simp only [Act.put, List.getElem_toArray, List.getElem_cons_zero, List.getElem_cons_succ, List.setIfInBounds_toArray, List.set_cons_zero, List.set_cons_succ])
    refine wpDet_ready (rs := [19]) (by kernel_rfl) (by simp) (AllDet.cons rfl (fun V hV K hK => ?_) AllDet.nil)
    rw [if_pos (by rfl)]
    refine wp_store_slice 40 _ _ rfl g (2 + i * 3) tp z tc _ rfl rfl sizeSl hV.1 hV.2.1 ?_
    refine hK.out (fun V => Ch (fun k => k = g) w V ∧ DC V g { d with fl := upF d.fl i ⟨tp, z, tc, lp, ln, lc, cl0⟩ }) _ _ (fun _ _ h hb => ⟨h.1.trans (Ch.of_below hb _), h.2.below hb h.2.lt⟩) (no_lean (by kernel_rfl)) ⟨(Ch.of_below hV.2.2.2 _).trans (Ch.setCell V ⟨g, 2 + i * 3, none⟩ _), hU V hV.2.2.1⟩ ?_
    clear hK K hV
    (try simp only [Act.put, List.getElem_toArray, List.getElem_cons_zero, List.getElem_cons_succ, List.setIfInBounds_toArray, List.set_cons_zero, List.set_cons_succ])
    refine wpDet_done (by kernel_rfl) (fun w8 hV => ?_) _
    have hS := sync_dc _ g _ hV.2 i hi
    dsimp only at hS
    rw [upF_same, upF_up] at hS
    dsimp only at hS
    go_wp2_with fail
    refine hS.mono ?_
    rintro e w9 ⟨rfl, h1, h2⟩
    go_wp2_with fail
    go_end0
    exact ⟨rfl, hV.1.trans h1, h2⟩
  | false =>
    obtain rfl : ln = s := hs.symm
    clear hs
    obtain ⟨cl0, hcl0⟩ : ∃ c, c = false := ⟨_, rfl⟩
    have hU : ∀ V, DC V g d → DC (V.setCell ⟨g, 2 + i * 3, none⟩ (.slice tp z tc)) g { d with fl := upF d.fl i ⟨tp, z, tc, lp, ln, lc, cl0⟩ } := by
      intro V hV
      have := hV.setTold hi tp z tc
      rw [hfl, ← hcl0] at this
      exact this
    clear hcl0
    go_enter Tryz.func81, Tryz.ntmps81
    go_wp2_with fail
    clear hct hcl hcc hf0
    refine wp_region_det [0, 1, 2, 3, 4, 5, 6, 7, 8, 9, 10, 11, 12, 13, 14, 15, 16, 18] (CS w g i tp tn tc d) (CS w g i tp tn tc d) (by kernel_rfl) hS5 ?_
    refine wpDet_take ?vB0 (CS.stays w g i tp tn tc d) (fun _ h => h) (i := 0) rfl (by kernel_rfl) (by kernel_rfl) (by kernel_rfl) (by kernel_rfl) (fun _ _ _ h => h) (Gives.value (by rfl) ?yB0) ?rB0
    case yB0 => (intro w' hSw; (try dsimp only at hSw); go_simp; try with_reducible rfl)
    (try simp only [Act.put, List.getElem_toArray, List.getElem_cons_zero, List.getElem_cons_succ, List.setIfInBounds_toArray, List.set_cons_zero, List.set_cons_succ])
    refine wpDet_take ?vB1 (CS.stays w g i tp tn tc d) (fun _ h => h) (i := 1) rfl (by kernel_rfl) (by kernel_rfl) (by kernel_rfl) (by kernel_rfl) (fun _ _ _ h => h) (Gives.value (by rfl) ?yB1) ?rB1
    case yB1 => (intro w' hSw; (try dsimp only at hSw); go_simp; try with_reducible rfl)
    (try simp only [Act.put, List.getElem_toArray, List.getElem_cons_zero, List.getElem_cons_succ, List.setIfInBounds_toArray, List.set_cons_zero, List.set_cons_succ])
    refine wpDet_take ?vB2 (CS.stays w g i tp tn tc d) (fun _ h => h) (i := 2) rfl (by kernel_rfl) (by kernel_rfl) (by kernel_rfl) (by kernel_rfl) (fun _ _ _ h => h) (Gives.value (by rfl) ?yB2) ?rB2
    case yB2 => (intro w' hSw; (try dsimp only at hSw); go_simp; try with_reducible rfl)
    (try simp only [Act.put, List.getElem_toArray, List.getElem_cons_zero, List.getElem_cons_succ, List.setIfInBounds_toArray, List.set_cons_zero, List.set_cons_succ])
    refine wpDet_take ?vB3 (CS.stays w g i tp tn tc d) (fun _ h => h) (i := 3) rfl (by kernel_rfl) (by kernel_rfl) (by kernel_rfl) (by kernel_rfl) (fun _ _ _ h => h) (Gives.value (by rfl) ?yB3) ?rB3
    case yB3 => (intro w' hSw; (try dsimp only at hSw); go_simp; try with_reducible rfl)
    (try simp only [Act.put, List.getElem_toArray, List.getElem_cons_zero, List.getElem_cons_succ, List.setIfInBounds_toArray, List.set_cons_zero, List.set_cons_succ])
    refine wpDet_take ?vB4 (CS.stays w g i tp tn tc d) (fun _ h => h) (i := 4) rfl (by kernel_rfl) (by kernel_rfl) (by kernel_rfl) (by kernel_rfl) (fun _ _ _ h => h) (Gives.value (by rfl) ?yB4) ?rB4
    case yB4 => (intro w' hSw; have hq0 := hSw.1; (try dsimp only at hSw); go_simp; try with_reducible rfl)
    (try simp only [Act.put, List.getElem_toArray, List.getElem_cons_zero, List.getElem_cons_succ, List.setIfInBounds_toArray, List.set_cons_zero, List.set_cons_succ])
    refine wpDet_take ?vB5 (CS.stays w g i tp tn tc d) (fun _ h => h) (i := 5) rfl (by kernel_rfl) (by kernel_rfl) (by kernel_rfl) (by kernel_rfl) (fun _ _ _ h => h) (Gives.value (by rfl) ?yB5) ?rB5
    case yB5 => (intro w' hSw; (try dsimp only at hSw); go_simp; try with_reducible rfl)
    (try simp only [Act.put, List.getElem_toArray, List.getElem_cons_zero, List.getElem_cons_succ, List.setIfInBounds_toArray, List.set_cons_zero, List.set_cons_succ])
    refine wpDet_take ?vB6 (CS.stays w g i tp tn tc d) (fun _ h => h) (i := 6) rfl (by kernel_rfl) (by kernel_rfl) (by kernel_rfl) (by kernel_rfl) (fun _ _ _ h => h) (Gives.value (by rfl) ?yB6) ?rB6
    case yB6 => (intro w' hSw; (try dsimp only at hSw); go_simp; try with_reducible rfl)
    (try simp only [Act.put, List.getElem_toArray, List.getElem_cons_zero, List.getElem_cons_succ, List.setIfInBounds_toArray, List.set_cons_zero, List.set_cons_succ])
    refine wpDet_take ?vB7 (CS.stays w g i tp tn tc d) (fun _ h => h) (i := 7) rfl (by kernel_rfl) (by kernel_rfl) (by kernel_rfl) (by kernel_rfl) (fun _ _ _ h => h) (Gives.value (by rfl) ?yB7) ?rB7
    case yB7 => (intro w' hSw; (try dsimp only at hSw); go_simp; try with_reducible rfl)
    (try simp only [Act.put, List.getElem_toArray, List.getElem_cons_zero, List.getElem_cons_succ, List.setIfInBounds_toArray, List.set_cons_zero, List.set_cons_succ])
    refine wpDet_take ?vB8 (CS.stays w g i tp tn tc d) (fun _ h => h) (i := 8) rfl (by kernel_rfl) (by kernel_rfl) (by kernel_rfl) (by kernel_rfl) (fun _ _ _ h => h) (Gives.value (by rfl) ?yB8) ?rB8
    case yB8 => (intro w' hSw; (try dsimp only at hSw); go_simp; try with_reducible rfl)
    (try simp only [Act.put, List.getElem_toArray, List.getElem_cons_zero, List.getElem_cons_succ, List.setIfInBounds_toArray, List.set_cons_zero, List.set_cons_succ])
    refine wpDet_take ?vB9 (CS.stays w g i tp tn tc d) (fun _ h => h) (i := 9) rfl (by kernel_rfl) (by kernel_rfl) (by kernel_rfl) (by kernel_rfl) (fun _ _ _ h => h) (Gives.value (by rfl) ?yB9) ?rB9
    case yB9 => (intro w' hSw; (try dsimp only at hSw); go_simp; try with_reducible rfl)
    (try simp only [Act.put, List.getElem_toArray, List.getElem_cons_zero, List.getElem_cons_succ, List.setIfInBounds_toArray, List.set_cons_zero, List.set_cons_succ])
    refine wpDet_take ?vB10 (CS.stays w g i tp tn tc d) (fun _ h => h) (i := 10) rfl (by kernel_rfl) (by kernel_rfl) (by kernel_rfl) (by kernel_rfl) (fun _ _ _ h => h) (Gives.value (by rfl) ?yB10) ?rB10
    case yB10 => (intro w' hSw; have hq0 := hSw.1; (try dsimp only at hSw); go_simp; try with_reducible rfl)
    (try simp only [Act.put, List.getElem_toArray, List.getElem_cons_zero, List.getElem_cons_succ, List.setIfInBounds_toArray, List.set_cons_zero, List.set_cons_succ])
    refine wpDet_take ?vB11 (CS.stays w g i tp tn tc d) (fun _ h => h) (i := 11) rfl (by kernel_rfl) (by kernel_rfl) (by kernel_rfl) (by kernel_rfl) (fun _ _ _ h => h) (Gives.value (by rfl) ?yB11) ?rB11
    case yB11 => (intro w' hSw; (try dsimp only at hSw); go_simp; try with_reducible rfl)
    (try simp only [Act.put, List.getElem_toArray, List.getElem_cons_zero, List.getElem_cons_succ, List.setIfInBounds_toArray, List.set_cons_zero, List.set_cons_succ])
    refine wpDet_take ?vB12 (CS.stays w g i tp tn tc d) (fun _ h => h) (i := 12) rfl (by kernel_rfl) (by kernel_rfl) (by kernel_rfl) (by kernel_rfl) (fun _ _ _ h => h) (Gives.value (by rfl) ?yB12) ?rB12
    case yB12 => (intro w' hSw; (try dsimp only at hSw); go_simp; try with_reducible rfl)
    (try simp only [Act.put, List.getElem_toArray, List.getElem_cons_zero, List.getElem_cons_succ, List.setIfInBounds_toArray, List.set_cons_zero, List.set_cons_succ])
    refine wpDet_take (.int .i64 (D : Int)) (CS.stays w g i tp tn tc d) (fun _ h => h) (i := 13) rfl (by kernel_rfl) (by kernel_rfl) (by kernel_rfl) (by kernel_rfl) (fun _ _ _ h => h) (Gives.value (by rfl) ?yB13) ?rB13
    case yB13 => (intro w' hSw; (try dsimp only at hSw); go_simp; exact wr_eq (by have := HD.out; omega) (by omega))
    (try simp only [Act.put, List.getElem_toArray, List.getElem_cons_zero, List.getElem_cons_succ, List.setIfInBounds_toArray, List.set_cons_zero, List.set_cons_succ])
    refine wpDet_take (.int .i64 (mm : Int)) (CS.stays w g i tp tn tc d) (fun _ h => h) (i := 14) rfl (by kernel_rfl) (by kernel_rfl) (by kernel_rfl) (by kernel_rfl) (fun _ _ _ h => h) (Gives.value (by rfl) ?yB14) ?rB14
    case yB14 => (intro w' hSw; (try dsimp only at hSw); go_simp; (have h1 := HM.out; split <;> omega))
    (try simp only [Act.put, List.getElem_toArray, List.getElem_cons_zero, List.getElem_cons_succ, List.setIfInBounds_toArray, List.set_cons_zero, List.set_cons_succ])
    refine wpDet_take (.int .i64 (z : Int)) (CS.stays w g i tp tn tc d) (fun _ h => h) (i := 15) rfl (by kernel_rfl) (by kernel_rfl) (by kernel_rfl) (by kernel_rfl) (fun _ _ _ h => h) (Gives.value (by rfl) ?yB15) ?rB15
    case yB15 => (intro w' hSw; (try dsimp only at hSw); go_simp; exact wr_eq (by have := HZ.out; omega) (by omega))
    (try simp only [Act.put, List.getElem_toArray, List.getElem_cons_zero, List.getElem_cons_succ, List.setIfInBounds_toArray, List.set_cons_zero, List.set_cons_succ])
    refine wpDet_take (.slice tp z tc) (CS.stays w g i tp tn tc d) (fun _ h => h) (i := 16) rfl (by kernel_rfl) (by kernel_rfl) (by kernel_rfl) (by kernel_rfl) (fun _ _ _ h => h) (Gives.value (by rfl) ?yB16) ?rB16
    case yB16 => (intro w' hSw; (try dsimp only at hSw); go_simp; try (intro hh; exfalso; omega))
    (try simp only [Act.put, List.getElem_toArray, List.getElem_cons_zero, List.getElem_cons_succ, List.setIfInBounds_toArray, List.set_cons_zero, List.set_cons_succ])
    refine wpDet_ready (rs := [17]) (by kernel_rfl) (by simp) (AllDet.cons rfl (fun V hV K hK => ?_) AllDet.nil)
    rw [if_pos (by rfl)]
    refine wp_nil _ rfl _ rfl ?_
    refine hK.out (CS w g i tp tn tc d) _ _ (CS.stays w g i tp tn tc d) (fun _ _ h => h) hV ?_
    clear hK K hV
    (try simp only [Act.put, List.getElem_toArray, List.getElem_cons_zero, List.getElem_cons_succ, List.setIfInBounds_toArray, List.set_cons_zero, List.set_cons_succ])
    refine wpDet_take ?vB18 (CS.stays w g i tp tn tc d) (fun _ h => h) (i := 18) rfl (by kernel_rfl) (by kernel_rfl) (by kernel_rfl) (by kernel_rfl) (fun _ _ _ h => h) (Gives.value (by rfl) ?yB18) ?rB18
    case yB18 => (intro w' hSw; (try dsimp only at hSw); go_simp; try with_reducible rfl)
    (try simp only [Act.put, List.getElem_toArray, List.getElem_cons_zero, List.getElem_cons_succ, List.setIfInBounds_toArray, List.set_cons_zero, List.set_cons_succ])
    refine wpDet_ready (rs := [19]) (by kernel_rfl) (by simp) (AllDet.cons rfl (fun V hV K hK => ?_) AllDet.nil)
    rw [if_pos (by rfl)]
    refine wp_store_slice 40 _ _ rfl g (2 + i * 3) tp z tc _ rfl rfl sizeSl hV.1 hV.2.1 ?_
    refine hK.out (fun V => Ch (fun k => k = g) w V ∧ DC V g { d with fl := upF d.fl i ⟨tp, z, tc, lp, ln, lc, cl0⟩ }) _ _ (fun _ _ h hb => ⟨h.1.trans (Ch.of_below hb _), h.2.below hb h.2.lt⟩) (no_lean (by kernel_rfl)) ⟨(Ch.of_below hV.2.2.2 _).trans (Ch.setCell V ⟨g, 2 + i * 3, none⟩ _), hU V hV.2.2.1⟩ ?_
    clear hK K hV
    (try simp only [Act.put, List.getElem_toArray, List.getElem_cons_zero, List.getElem_cons_succ, List.setIfInBounds_toArray, List.set_cons_zero, List.set_cons_succ])
    refine wpDet_done (by kernel_rfl) (fun w8 hV => ?_) _
    have hS := sync_dc _ g _ hV.2 i hi
    dsimp only at hS
    rw [upF_same, upF_up] at hS
    dsimp only at hS
    go_wp2_with fail
    refine hS.mono ?_
    rintro e w9 ⟨rfl, h1, h2⟩
    go_wp2_with fail
    go_end0
    exact ⟨rfl, hV.1.trans h1, h2⟩

end Go.Proofs.YtpjhadaiodnnaaaGreat.M
end

section
namespace Go.Proofs.YtpjhadaiodnnaaaGreat.M
open Go.ChangeShapes Go.WideShapes Go.ChangeAt Go.RowKit

/-- How much of what is told is sure. -/
def PF.sure (f : PF) : Nat := if f.cl then 0 else f.lasts.length

/-- What is left of a file's bytes behind a crash that keeps k. -/
def PF.rest (f : PF) (k : Int) : List Int := if k < 0 then f.lasts else f.told.take (f.sure + min k.toNat (f.told.length - f.sure))

def PF.crash (f : PF) (k : Int) : PF := ⟨f.rest k, f.rest k, false⟩

theorem sure_le {w : World} {B : Nat} {own : Nat → Nat} {a g : Nat} {d : Dk} {m : PD} (h : DA w B own a g d m) {i : Nat} (hi : i < 8) : (m.f i).sure ≤ (m.f i).told.length := by
  unfold PF.sure
  cases hc : (m.f i).cl with
  | true => exact Nat.zero_le _
  | false => exact ((h.fm i hi).begins ((h.cl i hi).trans hc)).length_le

theorem crash_any (w : World) (B : Nat) (own : Nat → Nat) (a g : Nat) (d : Dk) (m : PD) (h : DA w B own a g d m) (i : Nat) (hi : i < 8) (k : Int) (hn : (m.f i).told.length ≤ 1099511627776) :
    Calls Tryz.prog 81 #[.pointer (some ⟨g, 2 + i * 3, none⟩), .int .i64 k] w fun e w' => e = .returned (.tuple #[]) ∧ ∃ d', DA w' B own a g d' { m with f := upP m.f i ((m.f i).crash k) } ∧ Ch (fun k => k = g) w w' := by
  have hfm := h.fm i hi
  by_cases hk : k < 0
  · refine (crash_low w g d h.dc i hi k hk).mono ?_
    rintro e w' ⟨rfl, hc, hd⟩
    refine ⟨rfl, _, h.file hi _ ((m.f i).crash k) hc hd rfl ?_, hc⟩
    have hr : (m.f i).rest k = (m.f i).lasts := if_pos hk
    unfold PF.crash
    dsimp only
    rw [hr]
    exact ⟨hfm.lasts, hfm.lasts, hfm.lg, hfm.lg, (fun _ => List.prefix_refl _), (fun e => by cases e)⟩
  · obtain ⟨K, rfl⟩ := Int.eq_ofNat_of_zero_le (show 0 ≤ k by omega)
    have hs := sure_le h hi
    have htn := fl_tn h hi
    have hsu : (m.f i).sure = if (d.fl i).cl then 0 else (d.fl i).ln := by
      unfold PF.sure
      rw [h.cl i hi, hfm.lasts.len]
    have hcap : (d.fl i).tn ≤ (d.fl i).tc := hfm.told.ow.cap
    have hnil : (d.fl i).tp = none → (d.fl i).tc = 0 := fun e => by
      have := hfm.told.ow
      rw [e] at this
      exact this.none
    refine (crash_high w g d h.dc i hi K _ hsu (by omega) hcap (by omega) hnil).mono ?_
    rintro e w' ⟨rfl, hc, hd⟩
    refine ⟨rfl, _, h.file hi _ ((m.f i).crash K) hc hd rfl ?_, hc⟩
    have hr : (m.f i).rest K = (m.f i).told.take ((m.f i).sure + min K ((d.fl i).tn - (m.f i).sure)) := by
      unfold PF.rest
      rw [if_neg hk, Int.toNat_natCast, htn]
    unfold PF.crash
    dsimp only
    rw [hr]
    have ht := hfm.told.take (j := (m.f i).sure + min K ((d.fl i).tn - (m.f i).sure)) (by omega)
    exact ⟨ht, ht, hfm.tg, hfm.tg, (fun _ => List.prefix_refl _), (fun e => by cases e)⟩

/-- The i-th of what is to be kept; below 0, if there is none. -/
def keepAt (keep : List Int) (i : Nat) : Int := if i < keep.length then keep.getD i 0 else -1

/-- The first k files behind a fall. -/
def fallN (f : Nat → PF) (keep : List Int) (k : Nat) : Nat → PF := fun i => if i < k then (f i).crash (keepAt keep i) else f i

theorem fallN_step (f : Nat → PF) (keep : List Int) (k : Nat) : upP (fallN f keep k) k ((fallN f keep k k).crash (keepAt keep k)) = fallN f keep (k + 1) := by
  funext i
  unfold upP fallN
  by_cases h : i = k
  · subst h
    rw [if_pos rfl, if_neg (Nat.lt_irrefl _), if_pos (Nat.lt_succ_self _)]
  · rw [if_neg h]
    by_cases h2 : i < k
    · rw [if_pos h2, if_pos (by omega)]
    · rw [if_neg h2, if_neg (by omega)]

/-- A disk behind a fall. -/
def PD.fall (m : PD) (keep : List Int) : PD := { m with down := true, left := 0, keep := [], f := fallN m.f keep 8 }

set_option maxRecDepth 20000 in
theorem fall_any (w : World) (B : Nat) (own : Nat → Nat) (a g : Nat) (d : Dk) (m : PD) (h : DA w B own a g d m) (q : Option Addr) (l c : Nat) (keep : List Int) (hr : Rd .i64 w q l c keep) (hl : l ≤ 1099511627776) (hq : ∀ x, q = some x → 0 < l → x.block ≠ g) (hn : ∀ i, i < 8 → (m.f i).told.length ≤ 1099511627776) :
    Calls Tryz.prog 48 #[.pointer (some ⟨g, 0, none⟩), .slice q l c] w fun e w' => e = .returned (.tuple #[]) ∧ ∃ d', DA w' B own a g d' (m.fall keep) ∧ Ch (fun k => k = g) w w' := by
  have hc1 := h.dc.down
  have hf1 := h.dc.free 1
  have hd1 := h.dc.setDown true
  have hc26 := hd1.left
  have hc27 := hd1.keep
  have hf26 := hd1.free 26
  have hd2 := hd1.setLeft 0
  have hd3 := hd2.setKeep none 0 0
  have hf27 := h.dc.free 27
  have hc3 : Ch (fun k => k = g) w (((w.setCell ⟨g, 1, none⟩ (.bool true)).setCell ⟨g, 26, none⟩ (.int .i64 0)).setCell ⟨g, 27, none⟩ (.slice none 0 0)) := (Ch.cells2 w g 1 26 _ _).trans (Ch.setCell _ ⟨g, 27, none⟩ _)
  have hA3 : DA (((w.setCell ⟨g, 1, none⟩ (.bool true)).setCell ⟨g, 26, none⟩ (.int .i64 0)).setCell ⟨g, 27, none⟩ (.slice none 0 0)) B own a g _ { m with down := true, left := 0, keep := [], f := fallN m.f keep 0 } :=
    DA.mend hc3 hd3 h.room rfl rfl h.cl h.fm ⟨rfl, Nat.le_refl _, fun _ => rfl, fun h => absurd h (Nat.lt_irrefl _)⟩ h.og (fun x e => by cases e) h.bg h.fr
  go_enter Tryz.func48, Tryz.ntmps48
  go_wp2_with fail
  clear hd1 hd2 hd3 hc1 hf1 hc26 hc27 hf26 hf27 h
  generalize ((w.setCell ⟨g, 1, none⟩ (.bool true)).setCell ⟨g, 26, none⟩ (.int .i64 0)).setCell ⟨g, 27, none⟩ (.slice none 0 0) = w3 at *
  go_loopw [13] (fun i wr => ∃ (k : Nat) (d' : Dk), k ≤ 8 ∧ i = .int .i64 k ∧ DA wr B own a g d' { m with down := true, left := 0, keep := [], f := fallN m.f keep k } ∧ Ch (fun k => k = g) w wr) (fun i _ => 8 - (intOf i).toNat)
  case atStart => exact ⟨0, _, Nat.zero_le _, rfl, hA3, hc3⟩
  case round =>
    clear hA3 hc3
    obtain ⟨k, d', hk, rfl, hA, hc⟩ := hrel
    by_cases h8 : k < 8
    · have hfk : fallN m.f keep k k = m.f k := if_neg (Nat.lt_irrefl _)
      have hC := crash_any wr B own a g d' _ hA k h8 (keepAt keep k) (by dsimp only; rw [hfk]; exact hn k h8)
      dsimp only at hC
      rw [fallN_step] at hC
      have hrd := hA.dc.room
      have hr2 := hr.ch0 hc (fun x e e0 e2 => hq x e e0 e2)
      by_cases hkl : k < l
      · obtain ⟨b, o, rfl, hcs⟩ := hr2.cells (by omega)
        have hck := hcs k hkl
        have hka : keepAt keep k = keep.getD k 0 := if_pos (by rw [hr.len]; exact hkl)
        rw [hka] at hC
        generalize keep.getD k 0 = kv at *
        clear hcs hr2 hr hA hfk hka
        go_wp2_with fail
        refine hC.mono ?_
        rintro e w4 ⟨rfl, d4, hA4, hc4⟩
        go_wp2_with fail
        go_roundw
        case rel => exact ⟨k + 1, d4, by omega, by go_num, hA4, hc.trans hc4⟩
        case measure => simp [intOf]; omega
      · have hka : keepAt keep k = -1 := if_neg (by rw [hr.len]; exact hkl)
        rw [hka] at hC
        clear hr2 hr hA hfk hka
        go_wp2_with fail
        refine hC.mono ?_
        rintro e w4 ⟨rfl, d4, hA4, hc4⟩
        go_wp2_with fail
        go_roundw
        case rel => exact ⟨k + 1, d4, by omega, by go_num, hA4, hc.trans hc4⟩
        case measure => simp [intOf]; omega
    · obtain rfl : k = 8 := by omega
      go_wp2_with fail
      go_end0
      exact ⟨rfl, d', hA, hc⟩

end Go.Proofs.YtpjhadaiodnnaaaGreat.M
end

section
namespace Go.Proofs.YtpjhadaiodnnaaaGreat.M
open Go.ChangeShapes Go.WideShapes Go.ChangeAt Go.RowKit

/-- A disk behind an act of n bytes, of which X does so many. -/
def PD.act (m : PD) (n : Nat) (X : Nat → Nat → PF) : PD :=
  if m.left = 0 then { m with f := X n } else if m.left ≤ n then ({ m with f := X m.left } : PD).fall m.keep else { m with left := m.left - n, f := X n }

/-- Whether the power goes. -/
def PD.gone (m : PD) (n : Nat) : Bool := decide (0 < m.left ∧ m.left ≤ n)

/-- What is answered. -/
def goneE (b : Bool) : Int := if b then 50 else 0

theorem setLeft_any {w : World} {B : Nat} {own : Nat → Nat} {a g : Nat} {d : Dk} {m : PD} (h : DA w B own a g d m) (n : Nat) : DA (w.setCell ⟨g, 26, none⟩ (.int .i64 n)) B own a g { d with left := n } { m with left := n } :=
  DA.mend (Ch.setCell w ⟨g, 26, none⟩ _) (h.dc.setLeft n) h.room h.down rfl h.cl h.fm h.keep h.og h.ok h.bg h.fr

set_option maxRecDepth 20000 in
theorem act_any (F : FuncId) (hcf : ∀ (args : Array Value) (w : World), (callFunc F args).run Tryz.prog w = .ok (.enter F args) w) (caps : Array Value) (S : Nat → Prop) (w : World) (B : Nat) (own : Nat → Nat) (a g : Nat) (d : Dk) (m : PD) (h : DA w B own a g d m) (hg : S g) (n : Nat) (X : Nat → Nat → PF)
    (hX : ∀ n1, n1 ≤ n → ∀ i, i < 8 → (X n1 i).told.length ≤ 1099511627776) (hkl : m.keep.length ≤ 1099511627776) (hlm : m.left ≤ 9223372036854775807)
    (hdo : ∀ w1 d1 m1 n1, DA w1 B own a g d1 m1 → m1.f = m.f → n1 ≤ n → Ch (fun k => k = g) w w1 → Calls Tryz.prog F (#[.int .i64 (n1 : Nat)] ++ caps) w1 fun e w2 => e = .returned (.tuple #[]) ∧ ∃ own2 d2, DA w2 B own2 a g d2 { m1 with f := X n1 } ∧ (∀ k, k < w1.heap.size → own2 k = own k) ∧ Ch S w1 w2) :
    Calls Tryz.prog 68 #[.pointer (some ⟨g, 0, none⟩), .int .i64 n, .func (.func F) #[] caps] w fun e w' => e = .returned (.int .i64 (goneE (m.gone n))) ∧ ∃ own2 d2, DA w' B own2 a g d2 (m.act n X) ∧ (∀ k, k < w.heap.size → own2 k = own k) ∧ Ch S w w' := by
  have hcr := h.dc.room
  by_cases h0 : m.left = 0
  · have hB := burn_none w g d h.dc (h.left.trans h0) n
    have hD := hdo w d m n h rfl (Nat.le_refl _) (Ch.refl _ _)
    have HA : Hid (m.act n X = { m with f := X n }) := if_pos h0
    have HG : Hid (m.gone n = false) := decide_eq_false (by omega)
    go_enter Tryz.func68, Tryz.ntmps68
    go_wp2_with fail
    refine hB.mono ?_
    rintro e w1 ⟨rfl, rfl⟩
    go_wp2_with fail
    refine hD.mono ?_
    rintro e w2 ⟨rfl, own2, d2, hA2, ho2, hc2⟩
    go_wp2_with fail
    go_ret
    exact ⟨by rw [HG.out]; rfl, own2, d2, by rw [HA.out]; exact hA2, ho2, hc2⟩
  · by_cases h1 : m.left ≤ n
    · have hB := burn_out w g d h.dc (by rw [h.left]; omega) n (by rw [h.left]; exact h1)
      rw [h.left] at hB
      have hD := hdo w d m m.left h rfl h1 (Ch.refl _ _)
      have HA : Hid (m.act n X = ({ m with f := X m.left } : PD).fall m.keep) := by
        unfold Hid PD.act
        rw [if_neg h0, if_pos h1]
      have HG : Hid (m.gone n = true) := decide_eq_true (by omega)
      have hX1 := hX m.left h1
      clear hdo hX
      go_enter Tryz.func68, Tryz.ntmps68
      go_wp2_with fail
      refine hB.mono ?_
      rintro e w1 ⟨rfl, rfl⟩
      go_wp2_with fail
      refine hD.mono ?_
      rintro e w2 ⟨rfl, own2, d2, hA2, ho2, hc2⟩
      have hkl2 := hA2.keep.len
      have hck := hA2.dc.keep
      have hcr2 := hA2.dc.room
      have hFa := fall_any w2 B own2 a g d2 _ hA2 d2.kp d2.kn d2.kc m.keep hA2.keep (by rw [← hkl2]; exact hkl) (fun x e _ => (hA2.ok x e).2.1) hX1
      clear hA2 hkl2 hB hD
      generalize d2.kp = kp at *
      generalize d2.kn = kn at *
      generalize d2.kc = kc at *
      go_wp2_with fail
      refine hFa.mono ?_
      rintro e w3 ⟨rfl, d3, hA3, hc3⟩
      go_wp2_with fail
      go_ret
      exact ⟨by rw [HG.out]; rfl, own2, d3, by rw [HA.out]; exact hA3, ho2, hc2.trans (hc3.mono fun k _ e => by rw [e]; exact hg)⟩
    · have hB := burn_on w g d h.dc n (by rw [h.left]; omega) (by rw [h.left]; exact hlm)
      rw [h.left] at hB
      have hA1 := setLeft_any h (m.left - n)
      have hc1 := Ch.setCell w ⟨g, 26, none⟩ (.int .i64 ((m.left - n : Nat) : Int))
      have hD := hdo _ _ _ n hA1 rfl (Nat.le_refl _) hc1
      have HA : Hid (m.act n X = { m with left := m.left - n, f := X n }) := by
        unfold Hid PD.act
        rw [if_neg h0, if_neg h1]
      have HG : Hid (m.gone n = false) := decide_eq_false (by omega)
      have hsz : w.heap.size ≤ (w.setCell ⟨g, 26, none⟩ (.int .i64 ((m.left - n : Nat) : Int))).heap.size := hc1.size
      have hc1' := hc1.mono (T := S) fun k _ e => by rw [e]; exact hg
      clear hdo hX hA1 h
      go_enter Tryz.func68, Tryz.ntmps68
      go_wp2_with fail
      refine hB.mono ?_
      rintro e w1 ⟨rfl, rfl⟩
      go_wp2_with fail
      refine hD.mono ?_
      rintro e w2 ⟨rfl, own2, d2, hA2, ho2, hc2⟩
      go_wp2_with fail
      go_ret
      exact ⟨by rw [HG.out]; rfl, own2, d2, by rw [HA.out]; exact hA2, fun k hk => ho2 k (Nat.lt_of_lt_of_le hk hsz), hc1'.trans hc2⟩

end Go.Proofs.YtpjhadaiodnnaaaGreat.M
end

section
namespace Go.Proofs.YtpjhadaiodnnaaaGreat.M
open Go.ChangeShapes Go.WideShapes Go.ChangeAt Go.RowKit

theorem cf_of {F : FuncId} {fn : Func} (h : Tryz.prog.funcs[F]? = some fn) (h1 : (fn.name == "runtime.NumGoroutine") = false) (h2 : fn.body.isNone = false) (args : Array Value) (w : World) : (callFunc F args).run Tryz.prog w = .ok (.enter F args) w := by
  have h3 : ¬ fn.name = "runtime.NumGoroutine" := fun e => by rw [e] at h1; simp at h1
  have h4 : ¬ fn.body = none := fun e => by rw [e] at h2; cases h2
  unfold callFunc
  simp [Sem.run_bind, h, h3, h4]

theorem cfSync (args : Array Value) (w : World) : (callFunc 69 args).run Tryz.prog w = .ok (.enter 69 args) w := cf_of Tryz.func69 (by kernel_rfl) (by kernel_rfl) args w
theorem cfClear (args : Array Value) (w : World) : (callFunc 97 args).run Tryz.prog w = .ok (.enter 97 args) w := cf_of Tryz.func97 (by kernel_rfl) (by kernel_rfl) args w
theorem cfAppend (args : Array Value) (w : World) : (callFunc 85 args).run Tryz.prog w = .ok (.enter 85 args) w := cf_of Tryz.func85 (by kernel_rfl) (by kernel_rfl) args w

set_option maxRecDepth 20000 in
theorem sync1_any (w : World) (B : Nat) (own : Nat → Nat) (a g : Nat) (d : Dk) (m : PD) (h : DA w B own a g d m) (i : Nat) (hi : i < 8) (n bx : Nat) (hbx : w.cell? ⟨bx, 0, none⟩ = some (.pointer (some ⟨g, 2 + i * 3, none⟩))) :
    Calls Tryz.prog 69 #[.int .i64 n, .pointer (some ⟨bx, 0, none⟩)] w fun e w' => e = .returned (.tuple #[]) ∧ ∃ own2 d2, DA w' B own2 a g d2 { m with f := upP m.f i ⟨(m.f i).told, (m.f i).told, false⟩ } ∧ (∀ k, k < w.heap.size → own2 k = own k) ∧ Ch (fun k => k = g ∨ own k = mark a i) w w' := by
  have hS := sync_any w B own a g d m h i hi
  clear h
  go_enter Tryz.func69, Tryz.ntmps69
  go_wp2_with fail
  refine hS.mono ?_
  rintro e w1 ⟨rfl, d1, hA, hc⟩
  go_wp2_with fail
  go_end0
  exact ⟨rfl, own, d1, hA, fun _ _ => rfl, hc.mono fun k _ e => Or.inl e⟩

set_option maxRecDepth 20000 in
theorem clear1_any (w : World) (B : Nat) (own : Nat → Nat) (a g : Nat) (d : Dk) (m : PD) (h : DA w B own a g d m) (i : Nat) (hi : i < 8) (n bx : Nat) (hbx : w.cell? ⟨bx, 0, none⟩ = some (.pointer (some ⟨g, 2 + i * 3, none⟩))) :
    Calls Tryz.prog 97 #[.int .i64 n, .pointer (some ⟨bx, 0, none⟩)] w fun e w' => e = .returned (.tuple #[]) ∧ ∃ own2 d2, DA w' B own2 a g d2 { m with f := upP m.f i ⟨[], (m.f i).lasts, true⟩ } ∧ (∀ k, k < w.heap.size → own2 k = own k) ∧ Ch (fun k => k = g ∨ own k = mark a i) w w' := by
  have hS := clear_any w B own a g d m h i hi
  clear h
  go_enter Tryz.func97, Tryz.ntmps97
  go_wp2_with fail
  refine hS.mono ?_
  rintro e w1 ⟨rfl, d1, hA, hc⟩
  go_wp2_with fail
  go_end0
  exact ⟨rfl, own, d1, hA, fun _ _ => rfl, hc.mono fun k _ e => Or.inl e⟩

theorem DA.alloc {w : World} {B : Nat} {own : Nat → Nat} {a g : Nat} {d : Dk} {m : PD} (h : DA w B own a g d m) (o : Obj) : DA (w.alloc o) B own a g d m :=
  h.ch (S := fun _ => False) (Ch.of_below ((Below.refl _ _).alloc (Nat.le_refl _) o) _) (fun e => e) (fun _ _ _ _ e => e) (fun _ _ e => e) (fun _ _ => rfl) (fun k hk => h.fr k (Nat.le_trans (by simp) hk))

/-- What a disk that is used so far may be: no more than so much, of each. -/
structure PD.few (m : PD) : Prop where
  told : ∀ i, i < 8 → (m.f i).told.length ≤ 549755813888
  lasts : ∀ i, i < 8 → (m.f i).lasts.length ≤ 549755813888
  keep : m.keep.length ≤ 549755813888
  left : m.left ≤ 9223372036854775807

theorem upP_few {m : PD} (h : m.few) (i : Nat) (x : PF) (hx : x.told.length ≤ 1099511627776) : ∀ j, j < 8 → (upP m.f i x j).told.length ≤ 1099511627776 := by
  intro j hj
  by_cases e : j = i
  · rw [e, upP_same]; exact hx
  · rw [upP_other _ _ e]; have := h.told j hj; omega

set_option maxRecDepth 20000 in
theorem Sync_ok (w : World) (B : Nat) (own : Nat → Nat) (a g : Nat) (d : Dk) (m : PD) (h : DA w B own a g d m) (hr : 0 < m.room) (hw : m.down = false) (hm : m.few) (i : Nat) (hi : i < 8) :
    Calls Tryz.prog 36 #[.pointer (some ⟨g, 0, none⟩), .int .i64 i] w fun e w' => e = .returned (.int .i64 (goneE (m.gone 1))) ∧ ∃ own2 d2, DA w' B own2 a g d2 (m.act 1 fun _ => upP m.f i ⟨(m.f i).told, (m.f i).told, false⟩) ∧ (∀ k, k < w.heap.size → own2 k = own k) ∧ Ch (fun k => k = g ∨ own k = mark a i) w w' := by
  have hF := file_ok w g d h.dc (by rw [h.room]; exact hr) (h.down.trans hw) i hi
  have hA1 := h.alloc (.cells #[.pointer (some ⟨g, 2 + i * 3, none⟩)] 101)
  have hbx : (w.alloc (.cells #[.pointer (some ⟨g, 2 + i * 3, none⟩)] 101)).cell? ⟨w.heap.size, 0, none⟩ = some (.pointer (some ⟨g, 2 + i * 3, none⟩)) := by simp
  have hne : w.heap.size ≠ g := Nat.ne_of_gt h.dc.lt
  have hsz : w.heap.size < (w.alloc (.cells #[.pointer (some ⟨g, 2 + i * 3, none⟩)] 101)).heap.size := by simp
  have hc0 : Ch (fun k => k = g ∨ own k = mark a i) w (w.alloc (.cells #[.pointer (some ⟨g, 2 + i * 3, none⟩)] 101)) := Ch.of_below ((Below.refl _ _).alloc (Nat.le_refl _) _) _
  have hact := act_any 69 cfSync #[.pointer (some ⟨w.heap.size, 0, none⟩)] (fun k => k = g ∨ own k = mark a i) _ B own a g d m hA1 (Or.inl rfl) 1 (fun _ => upP m.f i ⟨(m.f i).told, (m.f i).told, false⟩)
    (fun _ _ => upP_few hm i _ (by have := hm.told i hi; dsimp only; omega)) (by have := hm.keep; omega) hm.left (fun w1 d1 m1 n1 hA hf _ hc => by
      have := sync1_any w1 B own a g d1 m1 hA i hi n1 w.heap.size (by rw [hc.cell (p := ⟨w.heap.size, 0, none⟩) hsz hne]; exact hbx)
      rw [hf] at this
      exact this)
  clear hA1 h hbx
  go_enter Tryz.func36, Tryz.ntmps36
  go_wp2_with fail
  refine hF.mono ?_
  rintro e w1 ⟨rfl, rfl⟩
  go_wp2_with fail
  refine hact.mono ?_
  rintro e w2 ⟨rfl, own2, d2, hA2, ho2, hc2⟩
  go_wp2_with fail
  go_ret
  exact ⟨rfl, own2, d2, hA2, fun k hk => ho2 k (Nat.lt_trans hk hsz), hc0.trans hc2⟩

end Go.Proofs.YtpjhadaiodnnaaaGreat.M
end
