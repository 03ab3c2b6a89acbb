/-
  Own text: the contract of a tape's At where the record is there.
-/
import Derived.Test.YtpjhadaiodnnaaaTPut
namespace Go.Proofs.Ytpjhadaiodnnaaa.M
open Go.ChangeShapes Go.WideShapes Go.ChangeAt Go.RowKit
set_option linter.unusedSimpArgs false

set_option maxRecDepth 20000 in
set_option maxHeartbeats 2000000 in
theorem TAt_ok (w : World) (gt g : Nat) (b o n c i : Nat) (hi : i < n) (h0 : w.cell? ⟨gt, 0, none⟩ = some (.pointer (some ⟨g, 0, none⟩))) (h5 : w.cell? ⟨gt, 5, none⟩ = some (.slice (some ⟨b, o, none⟩) n c)) (q : Option Addr) (m d : Nat) (hq : w.cell? ⟨b, o + i, none⟩ = some (.slice q m d)) (xs : List Int) (hr : Rd .u8 w q m d xs) (hm : m ≤ 1099511627776) :
    Calls Try.prog 33 #[.pointer (some ⟨gt, 0, none⟩), .int .i64 i] w fun e w' => (∃ p' c', e = .returned (.tuple #[.slice p' m c', .bool true]) ∧ Ow .u8 5 w' w.heap.size p' m c' xs) ∧ Below w.heap.size w w' := by
  have hL := TLen_ok w gt g _ n c h0 h5
  have k1 : decide ((i : Int) < 0) = false := decide_eq_false (by omega)
  have k2 : decide ((n : Int) ≤ (i : Int)) = false := decide_eq_false (by omega)
  go_enter Try.func33, Try.ntmps33
  go_wp2_with fail
  refine hL.mono ?_
  rintro e w1 ⟨rfl, hb1⟩
  clear hL
  have h51 := cell_below hb1 h5
  have hq1 := cell_below hb1 hq
  have hC := bcloneO q m d xs w1 (hr.below hb1) hm
  clear h5 hq h0
  go_wp2_with fail
  refine hC.mono ?_
  rintro e w2 ⟨p', c', rfl, hO, hb2⟩
  clear hC
  go_wp2_with fail
  go_ret2
  exact ⟨⟨p', c', rfl, hO.lower hb1.size⟩, hb1.trans (hb2.mono hb1.size)⟩

end Go.Proofs.Ytpjhadaiodnnaaa.M
