/-
  Own text: the walk of the law MaskCounts.
-/
import Derived.Test.YtbbcondoenmapacDoorKHigh
import Derived.Test.YtbbcondoenmapacDoorOpen
import Derived.Deep.RegionHeld3
namespace Go.Proofs.YtbbcondoenmapacDoor.M
open Go.ChangeShapes Go.WideShapes Go.ChangeAt Go.RowKit

set_option maxRecDepth 20000 in
set_option linter.unusedSimpArgs false in
theorem counts_some (x : Nat) (w : World) (hT : Tab w) (hx : x < 18446744073709551616) (h0 : 0 < pop x) :
    Calls Tryd.prog 4 #[.int .u64 x] w fun e w' => e = .returned (.bool true) ∧ Below w.heap.size w w' := by
  have c1 := fun W => from_any x W hx
  have c2 := fun W => rall_any x W
  have c3 := fun W => len_any x W hx
  have c4 := fun W => high_any x W hx
  have c5 := fun W hW => low_any x W (low_first hx h0).1 hx hW
  have c6 := fun W => all_any x W hx
  have hh := high_last hx h0
  have hl := (low_first hx h0).2
  have hp := pop_le x
  rw [hh] at c4
  rw [hl] at c5
  clear hh hl
  generalize allL (bt x) 64 = ls at c2 c4 c5 c6
  generalize pop x = px at c2 c3 c4 c6 h0 hp
  generalize bitL x = bs at c1 c2
  go_enter Tryd.func4, Tryd.ntmps4
  go_wp2_with fail
  refine (c1 _).mono ?_
  rintro e w1 ⟨rfl, hb1⟩
  go_wp2_with fail
  refine (c2 _).mono ?_
  rintro e w2 ⟨p, c, rfl, hr, hb2⟩
  have hb3 := hb1.trans (hb2.mono hb1.size)
  clear hb1 hb2
  obtain ⟨q, rfl⟩ : ∃ q, px = q + 1 := ⟨px - 1, by omega⟩
  rw [Nat.add_sub_cancel] at c4
  obtain ⟨b, o, rfl, hc⟩ := hr.cells (by omega)
  have hc0 : w2.cell? ⟨b, o, none⟩ = some (.int .i64 (ls.getD 0 0)) := hc 0 h0
  have hc1 := hc q (by omega)
  have hi1 : (q : Int) < ((q + 1 : Nat) : Int) := by omega
  have hi0 : (0 : Int) < ((q + 1 : Nat) : Int) := by omega
  clear hc
  generalize ls.getD 0 0 = z0 at hc0 c5
  generalize ls.getD q 0 = z1 at hc1 c4
  go_wp2_with fail
  go_quiet (fail)
  have hr2 := hr.below (below_drewN (Below.refl _ _) nq)
  have hb4 := below_drewN hb3 nq
  clear hr hb3 hc0 hc1
  go_wp2_with fail
  refine (c3 _).mono ?_
  rintro e w3 ⟨rfl, hw⟩
  generalize w2.drewN nq = w4 at hr2 hb4 hw ⊢
  subst hw
  have hT3 := hT.below hb4
  go_wp2_with fail
  refine (c5 _ hT3).mono ?_
  rintro e w4 ⟨rfl, hw⟩
  subst hw
  go_wp2_with fail
  refine (c4 _).mono ?_
  rintro e w4 ⟨rfl, hw⟩
  subst hw
  go_wp2_with fail
  refine (c6 _).mono ?_
  rintro e w5 ⟨p5, c5', rfl, hr5, hb5⟩
  have hr6 := hr2.below hb5
  have hb6 := hb4.trans (hb5.mono hb4.size)
  clear hr2 hb4 hb5
  have cE := eqInts_any _ _ _ _ _ _ _ hr5 hr6 (by omega)
  go_wp2_with fail
  refine cE.mono ?_
  rintro e w6 ⟨rfl, hb7⟩
  have hb8 := hb6.trans (hb7.mono hb6.size)
  have hT6 := hT.below hb8
  clear cE hr5 hr6
  go_wp2_with fail
  refine (awake_any _ hT6).mono ?_
  rintro e w7 ⟨rfl, hb9⟩
  have hb10 := hb8.trans (hb9.mono hb8.size)
  go_wp2_with fail
  go_ret
  exact ⟨rfl, hb10⟩

set_option maxRecDepth 20000 in
set_option linter.unusedSimpArgs false in
theorem counts_none (w : World) (hT : Tab w) :
    Calls Tryd.prog 4 #[.int .u64 0] w fun e w' => e = .returned (.bool true) ∧ Below w.heap.size w w' := by
  have hx : 0 < 18446744073709551616 := by decide
  have c1 := fun W => from_any 0 W hx
  have c2 := fun W => rall_any 0 W
  have c3 := fun W => len_any 0 W hx
  have c4 := fun W => high_any 0 W hx
  have c5 := fun W => low_none W
  have c6 := fun W => all_any 0 W hx
  rw [show Lib.bitLen 0 = 0 from by decide] at c4
  rw [show pop 0 = 0 from by decide] at c2 c3 c6
  generalize bitL 0 = bs at c1 c2
  generalize allL (bt 0) 64 = ls at c2 c6
  go_enter Tryd.func4, Tryd.ntmps4
  go_wp2_with fail
  refine (c1 _).mono ?_
  rintro e w1 ⟨rfl, hb1⟩
  go_wp2_with fail
  refine (c2 _).mono ?_
  rintro e w2 ⟨p, c, rfl, hr, hb2⟩
  have hb4 := hb1.trans (hb2.mono hb1.size)
  clear hb1 hb2
  go_wp2_with fail
  refine (c3 _).mono ?_
  rintro e w3 ⟨rfl, hw⟩
  subst hw
  have hT3 := hT.below hb4
  go_wp2_with fail
  refine (c5 _).mono ?_
  rintro e w4 ⟨rfl, hw⟩
  subst hw
  go_wp2_with fail
  refine (c4 _).mono ?_
  rintro e w4 ⟨rfl, hw⟩
  subst hw
  go_wp2_with fail
  refine (c6 _).mono ?_
  rintro e w5 ⟨p5, c5', rfl, hr5, hb5⟩
  have hr6 := hr.below hb5
  have hb6 := hb4.trans (hb5.mono hb4.size)
  clear hr hb4 hb5
  have cE := eqInts_any _ _ _ _ _ _ _ hr5 hr6 (by omega)
  go_wp2_with fail
  refine cE.mono ?_
  rintro e w6 ⟨rfl, hb7⟩
  have hb8 := hb6.trans (hb7.mono hb6.size)
  have hT6 := hT.below hb8
  clear cE hr5 hr6
  go_wp2_with fail
  refine (awake_any _ hT6).mono ?_
  rintro e w7 ⟨rfl, hb9⟩
  have hb10 := hb8.trans (hb9.mono hb8.size)
  go_wp2_with fail
  go_ret
  exact ⟨rfl, hb10⟩

theorem walk_MaskCounts (w : World) (hT : Tab w) (a : Int) (wa : (Lit.int .u64 a).wf = true) :
    Calls Tryd.prog 4 #[.int .u64 a] w fun e w' => e = .returned (.bool true) ∧ Below w.heap.size w w' := by
  have ba := u64_bounds wa
  obtain ⟨x, rfl⟩ := Int.eq_ofNat_of_zero_le ba.1
  have hx : x < 18446744073709551616 := by omega
  rcases Nat.eq_zero_or_pos (pop x) with h | h
  · obtain rfl := pop_zero hx h
    exact counts_none w hT
  · exact counts_some x w hT hx h

end Go.Proofs.YtbbcondoenmapacDoor.M
