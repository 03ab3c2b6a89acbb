/-
  Own text: the calls of a tape that no call made.
-/
import Derived.Test.YtpjhadaiodnnaaaTAt
namespace Go.Proofs.Ytpjhadaiodnnaaa.M
open Go.ChangeShapes Go.WideShapes Go.ChangeAt Go.RowKit
set_option linter.unusedSimpArgs false

/-- A tape that no call made: nil, or a plain one. -/
def TNo (w : World) (v : Option Addr) : Prop := v = none ∨ ∃ gt, v = some ⟨gt, 0, none⟩ ∧ w.cell? ⟨gt, 0, none⟩ = some (.pointer none)

theorem TNo.below {w w' : World} {v : Option Addr} (h : TNo w v) (hb : Below w.heap.size w w') : TNo w' v := h.imp id fun ⟨gt, e, hc⟩ => ⟨gt, e, cell_below hb hc⟩

set_option maxRecDepth 20000 in
theorem tmade_no (w : World) (v : Option Addr) (h : TNo w v) : Calls Try.prog 53 #[.pointer v] w fun e w' => e = .returned (.bool false) ∧ w' = w := by
  rcases h with rfl | ⟨gt, rfl, h0⟩
  · go_enter Try.func53, Try.ntmps53
    go_wp2_with fail
    go_ret
    exact ⟨rfl, rfl⟩
  · go_enter Try.func53, Try.ntmps53
    go_wp2_with fail
    go_ret
    exact ⟨rfl, rfl⟩

set_option maxRecDepth 20000 in
theorem TLen_no (w : World) (v : Option Addr) (h : TNo w v) : Calls Try.prog 34 #[.pointer v] w fun e w' => e = .returned (.int .i64 0) ∧ w' = w := by
  have hM := tmade_no w v h
  go_enter Try.func34, Try.ntmps34
  go_wp2_with fail
  refine hM.mono ?_
  rintro e w0 ⟨rfl, hw0⟩
  subst hw0
  clear hM
  go_wp2_with fail
  go_ret
  exact ⟨rfl, rfl⟩

set_option maxRecDepth 20000 in
theorem TKept_no (w : World) (v : Option Addr) (h : TNo w v) : Calls Try.prog 35 #[.pointer v] w fun e w' => e = .returned (.int .i64 0) ∧ w' = w := by
  have hM := tmade_no w v h
  go_enter Try.func35, Try.ntmps35
  go_wp2_with fail
  refine hM.mono ?_
  rintro e w0 ⟨rfl, hw0⟩
  subst hw0
  clear hM
  go_wp2_with fail
  go_ret
  exact ⟨rfl, rfl⟩

set_option maxRecDepth 20000 in
theorem TBase_no (w : World) (v : Option Addr) (h : TNo w v) : Calls Try.prog 30 #[.pointer v] w fun e w' => e = .returned (.slice none 0 0) ∧ w' = w := by
  have hM := tmade_no w v h
  go_enter Try.func30, Try.ntmps30
  go_wp2_with fail
  refine hM.mono ?_
  rintro e w0 ⟨rfl, hw0⟩
  subst hw0
  clear hM
  go_wp2_with fail
  go_ret
  exact ⟨rfl, rfl⟩

set_option maxRecDepth 20000 in
theorem TSync_no (w : World) (v : Option Addr) (h : TNo w v) : Calls Try.prog 20 #[.pointer v] w fun e w' => e = .returned (.int .i64 6) ∧ w' = w := by
  have hM := tmade_no w v h
  go_enter Try.func20, Try.ntmps20
  go_wp2_with fail
  refine hM.mono ?_
  rintro e w0 ⟨rfl, hw0⟩
  subst hw0
  clear hM
  go_wp2_with fail
  go_ret
  exact ⟨rfl, rfl⟩

set_option maxRecDepth 20000 in
theorem TPut_no (w : World) (v : Option Addr) (h : TNo w v) (p : Option Addr) (n c : Nat) : Calls Try.prog 23 #[.pointer v, .slice p n c] w fun e w' => e = .returned (.int .i64 6) ∧ w' = w := by
  have hM := tmade_no w v h
  go_enter Try.func23, Try.ntmps23
  go_wp2_with fail
  refine hM.mono ?_
  rintro e w0 ⟨rfl, hw0⟩
  subst hw0
  clear hM
  go_wp2_with fail
  go_ret
  exact ⟨rfl, rfl⟩

set_option maxRecDepth 20000 in
theorem TSave_no (w : World) (v : Option Addr) (h : TNo w v) (p : Option Addr) (n c : Nat) (q : Option Addr) (n' c' : Nat) : Calls Try.prog 21 #[.pointer v, .slice p n c, .slice q n' c'] w fun e w' => e = .returned (.int .i64 6) ∧ w' = w := by
  have hM := tmade_no w v h
  go_enter Try.func21, Try.ntmps21
  go_wp2_with fail
  refine hM.mono ?_
  rintro e w0 ⟨rfl, hw0⟩
  subst hw0
  clear hM
  go_wp2_with fail
  go_ret
  exact ⟨rfl, rfl⟩

set_option maxRecDepth 20000 in
theorem TAt_no (w : World) (v : Option Addr) (h : TNo w v) (i : Int) : Calls Try.prog 33 #[.pointer v, .int .i64 i] w fun e w' => e = .returned (.tuple #[.slice none 0 0, .bool false]) ∧ w' = w := by
  by_cases hi : i < 0
  · have k1 : decide (i < 0) = true := decide_eq_true hi
    go_enter Try.func33, Try.ntmps33
    go_wp2_with fail
    go_ret2
    exact ⟨rfl, rfl⟩
  · have k1 : decide (i < 0) = false := decide_eq_false hi
    have k2 : decide (0 ≤ i) = true := decide_eq_true (by omega)
    have hL := TLen_no w v h
    go_enter Try.func33, Try.ntmps33
    go_wp2_with fail
    refine hL.mono ?_
    rintro e w0 ⟨rfl, hw0⟩
    subst hw0
    clear hL
    go_wp2_with fail
    go_ret2
    exact ⟨rfl, rfl⟩

end Go.Proofs.Ytpjhadaiodnnaaa.M
