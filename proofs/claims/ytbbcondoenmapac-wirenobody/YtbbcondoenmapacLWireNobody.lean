/-
  Own text: a reader that no call made (nil, or a plain one), and the walk of the law WireNobody.
-/
import Derived.Test.YtbbcondoenmapacAwake
import Derived.Test.YtbbcondoenmapacOpen
namespace Go.Proofs.Ytbbcondoenmapac.M
open Go.ChangeShapes Go.WideShapes Go.ChangeAt Go.RowKit

/-- A reader that no call made. -/
def Nob (w : World) (v : Option Addr) : Prop := v = none ∨ ∃ b o, v = some ⟨b, o, none⟩ ∧ w.cell? ⟨b, o, none⟩ = some (.bool false)

set_option maxRecDepth 20000 in
theorem err_nob (v : Option Addr) (w : World) (h : Nob w v) : Calls Try.prog 13 #[.pointer v] w fun e w' => e = .returned (.int .i64 6) ∧ w' = w := by
  rcases h with rfl | ⟨b, o, rfl, hc⟩
  · go_enter Try.func13, Try.ntmps13
    go_wp2
    go_ret
    exact ⟨rfl, rfl⟩
  · go_enter Try.func13, Try.ntmps13
    go_wp2
    go_ret
    exact ⟨rfl, rfl⟩

set_option maxRecDepth 20000 in
theorem left_nob (v : Option Addr) (w : World) (h : Nob w v) : Calls Try.prog 12 #[.pointer v] w fun e w' => e = .returned (.int .i64 0) ∧ w' = w := by
  rcases h with rfl | ⟨b, o, rfl, hc⟩
  · go_enter Try.func12, Try.ntmps12
    go_wp2
    go_ret
    exact ⟨rfl, rfl⟩
  · go_enter Try.func12, Try.ntmps12
    go_wp2
    go_ret
    exact ⟨rfl, rfl⟩

set_option maxRecDepth 20000 in
theorem end_nob (v : Option Addr) (w : World) (h : Nob w v) : Calls Try.prog 14 #[.pointer v] w fun e w' => e = .returned (.int .i64 6) ∧ w' = w := by
  have c := err_nob v w h
  clear h
  go_enter Try.func14, Try.ntmps14
  go_wp2_with (go_at_call 13; refine c.mono ?_; rintro e w1 ⟨rfl, hw⟩; subst hw)
  go_ret
  exact ⟨rfl, rfl⟩

set_option maxRecDepth 20000 in
theorem number_nob (v : Option Addr) (w : World) (h : Nob w v) : Calls Try.prog 7 #[.pointer v] w fun e w' => e = .returned (.int .u64 0) ∧ w' = w := by
  have c := err_nob v w h
  clear h
  go_enter Try.func7, Try.ntmps7
  go_wp2_with (go_at_call 13; refine c.mono ?_; rintro e w1 ⟨rfl, hw⟩; subst hw)
  go_ret
  exact ⟨rfl, rfl⟩

set_option maxRecDepth 20000 in
theorem within_nob (v : Option Addr) (lo hi : Int) (w : World) (h : Nob w v) : Calls Try.prog 8 #[.pointer v, .int .i64 lo, .int .i64 hi] w fun e w' => e = .returned (.int .i64 0) ∧ w' = w := by
  have c := err_nob v w h
  clear h
  go_enter Try.func8, Try.ntmps8
  go_wp2_with (go_at_call 13; refine c.mono ?_; rintro e w1 ⟨rfl, hw⟩; subst hw)
  go_ret
  exact ⟨rfl, rfl⟩

set_option maxRecDepth 20000 in
theorem bytes_nob (v : Option Addr) (hi : Int) (w : World) (h : Nob w v) : Calls Try.prog 11 #[.pointer v, .int .i64 hi] w fun e w' => e = .returned (.slice none 0 0) ∧ w' = w := by
  have c := err_nob v w h
  clear h
  go_enter Try.func11, Try.ntmps11
  go_wp2_with (go_at_call 13; refine c.mono ?_; rintro e w1 ⟨rfl, hw⟩; subst hw)
  go_ret
  exact ⟨rfl, rfl⟩

set_option maxRecDepth 20000 in
theorem int_nob (v : Option Addr) (w : World) (h : Nob w v) : Calls Try.prog 9 #[.pointer v] w fun e w' => e = .returned (.int .i64 0) ∧ w' = w := by
  have c := number_nob v w h
  have d := back_any 0 w (by decide) (by decide)
  rw [show zag 0 = 0 from by decide +kernel] at d
  clear h
  go_enter Try.func9, Try.ntmps9
  go_wp2_with (first | (go_at_call 7; refine c.mono ?_; rintro e w1 ⟨rfl, hw⟩; subst hw) | (go_at_call 24; refine d.mono ?_; rintro e w1 ⟨rfl, hw⟩; subst hw))
  go_ret
  exact ⟨rfl, rfl⟩

set_option maxRecDepth 20000 in
theorem bool_nob (v : Option Addr) (w : World) (h : Nob w v) : Calls Try.prog 10 #[.pointer v] w fun e w' => e = .returned (.bool false) ∧ w' = w := by
  have c := within_nob v 0 1 w h
  clear h
  go_enter Try.func10, Try.ntmps10
  go_wp2_with (go_at_call 8; refine c.mono ?_; rintro e w1 ⟨rfl, hw⟩; subst hw)
  go_ret
  exact ⟨rfl, rfl⟩

set_option maxRecDepth 20000 in
set_option maxHeartbeats 400000 in
theorem walk_WireNobody (w : World) (lo : Int) (_hlo : (Lit.int .i64 lo).wf = true) (hi : Int) (_hhi : (Lit.int .i64 hi).wf = true) :
    Calls Try.prog 4 #[.int .i64 lo, .int .i64 hi] w fun e w' => e = .returned (.bool true) ∧ Below w.heap.size w w' := by
  go_enter Try.func4, Try.ntmps4
  go_wp2
  have hN0 : Nob ((w.alloc (.cells #[.bool false, .slice none 0 0, .int .i64 0] 30)).alloc (.cells #[.pointer none, .pointer (some ⟨w.heap.size, 0, none⟩)] 27)) none := Or.inl rfl
  have hN1 : Nob ((w.alloc (.cells #[.bool false, .slice none 0 0, .int .i64 0] 30)).alloc (.cells #[.pointer none, .pointer (some ⟨w.heap.size, 0, none⟩)] 27)) (some ⟨w.heap.size, 0, none⟩) := Or.inr ⟨_, _, rfl, by simp⟩
  have hb1 := (below_alloc w (.cells #[.bool false, .slice none 0 0, .int .i64 0] 30)).trans ((below_alloc (w.alloc (.cells #[.bool false, .slice none 0 0, .int .i64 0] 30)) (.cells #[.pointer none, .pointer (some ⟨w.heap.size, 0, none⟩)] 27)).mono (by simp))
  go_loop [11] (fun i => ∃ k : Nat, k ≤ 2 ∧ i = .int .i64 k) (fun i => 2 - (intOf i).toNat)
  case atStart => exact ⟨0, by omega, rfl⟩
  case round =>
    obtain ⟨k, hk, rfl⟩ := hrel
    rcases (show k = 0 ∨ k = 1 ∨ k = 2 by omega) with rfl | rfl | rfl
    · clear hN1 hb1
      have hN := hN0
      clear hN0
      go_wp2_with fail
      refine (number_nob _ _ hN).mono ?_
      rintro e w1 ⟨rfl, hw⟩
      subst hw
      go_wp2_with fail
      refine (within_nob _ _ _ _ hN).mono ?_
      rintro e w1 ⟨rfl, hw⟩
      subst hw
      go_wp2_with fail
      refine (int_nob _ _ hN).mono ?_
      rintro e w1 ⟨rfl, hw⟩
      subst hw
      go_wp2_with fail
      refine (bool_nob _ _ hN).mono ?_
      rintro e w1 ⟨rfl, hw⟩
      subst hw
      go_wp2_with fail
      refine (bytes_nob _ _ _ hN).mono ?_
      rintro e w1 ⟨rfl, hw⟩
      subst hw
      go_wp2_with fail
      refine (left_nob _ _ hN).mono ?_
      rintro e w1 ⟨rfl, hw⟩
      subst hw
      go_wp2_with fail
      refine (err_nob _ _ hN).mono ?_
      rintro e w1 ⟨rfl, hw⟩
      subst hw
      go_wp2_with fail
      refine (end_nob _ _ hN).mono ?_
      rintro e w1 ⟨rfl, hw⟩
      subst hw
      go_wp2_with fail
      go_round
      case rel => exact ⟨1, by omega, rfl⟩
      case measure => simp [intOf]
    · clear hN0 hb1
      have hN := hN1
      clear hN1
      go_wp2_with fail
      refine (number_nob _ _ hN).mono ?_
      rintro e w1 ⟨rfl, hw⟩
      subst hw
      go_wp2_with fail
      refine (within_nob _ _ _ _ hN).mono ?_
      rintro e w1 ⟨rfl, hw⟩
      subst hw
      go_wp2_with fail
      refine (int_nob _ _ hN).mono ?_
      rintro e w1 ⟨rfl, hw⟩
      subst hw
      go_wp2_with fail
      refine (bool_nob _ _ hN).mono ?_
      rintro e w1 ⟨rfl, hw⟩
      subst hw
      go_wp2_with fail
      refine (bytes_nob _ _ _ hN).mono ?_
      rintro e w1 ⟨rfl, hw⟩
      subst hw
      go_wp2_with fail
      refine (left_nob _ _ hN).mono ?_
      rintro e w1 ⟨rfl, hw⟩
      subst hw
      go_wp2_with fail
      refine (err_nob _ _ hN).mono ?_
      rintro e w1 ⟨rfl, hw⟩
      subst hw
      go_wp2_with fail
      refine (end_nob _ _ hN).mono ?_
      rintro e w1 ⟨rfl, hw⟩
      subst hw
      go_wp2_with fail
      go_round
      case rel => exact ⟨2, by omega, rfl⟩
      case measure => simp [intOf]
    · clear hN0 hN1
      go_wp2_with fail
      refine (awake_any _).mono ?_
      rintro e w5 ⟨rfl, hb5⟩
      have hbb5 := Below.via hb1 hb5 (Nat.le_refl _)
      go_wp2_with fail
      go_ret
      exact ⟨rfl, hbb5⟩

end Go.Proofs.Ytbbcondoenmapac.M
