/-
  Own text: contracts of does on a disk that no call made.
-/
import Derived.Test.YtohmjpjjmhcjgaaDNob
namespace Go.Proofs.Ytohmjpjjmhcjgaa.M
open Go.ChangeShapes Go.WideShapes Go.ChangeAt Go.RowKit

set_option maxRecDepth 20000 in
theorem does_nob (v : Value) (w : World) (h : Nob v w) (op i n : Int) (bq : Option Addr) (bl bc : Nat) (kq : Option Addr) (kl kc : Nat) :
    Calls Try.prog 7 #[v, .agg #[.int .i64 op, .int .i64 i, .int .i64 n, .slice bq bl bc, .slice kq kl kc]] w fun e w' => e = .returned (.int .i64 6) ∧ Below w.heap.size w w' := by
  have hb1 : Below w.heap.size w (w.alloc (.cells #[.int .i64 op, .int .i64 i, .int .i64 n, .slice bq bl bc, .slice kq kl kc] 25)) := (Below.refl _ _).alloc (Nat.le_refl _) _
  have h1 := h.below hb1
  have cA := Append_nob v _ h1 i bq bl bc
  have cC := Clear_nob v _ h1 i
  have cS := Sync_nob v _ h1 i
  have cK := Crash_nob v _ h1 kq kl kc
  have cT := Start_nob v _ h1
  have cR := Arm_nob v _ h1 n kq kl kc
  clear h h1
  go_enter Try.func7, Try.ntmps7
  go_wp2_with fail
  · refine cC.mono ?_
    rintro e w1 ⟨rfl, hb2⟩
    have hb3 := hb1.trans (hb2.mono (by simp))
    clear hb2
    go_wp2_with fail
    go_ret
    exact ⟨rfl, hb3⟩
  · refine cS.mono ?_
    rintro e w1 ⟨rfl, hb2⟩
    have hb3 := hb1.trans (hb2.mono (by simp))
    clear hb2
    go_wp2_with fail
    go_ret
    exact ⟨rfl, hb3⟩
  · refine cK.mono ?_
    rintro e w1 ⟨rfl, rfl⟩
    go_wp2_with fail
    go_ret
    exact ⟨rfl, hb1⟩
  · refine cT.mono ?_
    rintro e w1 ⟨rfl, rfl⟩
    go_wp2_with fail
    go_ret
    exact ⟨rfl, hb1⟩
  · refine cR.mono ?_
    rintro e w1 ⟨rfl, rfl⟩
    go_wp2_with fail
    go_ret
    exact ⟨rfl, hb1⟩
  · refine cA.mono ?_
    rintro e w1 ⟨rfl, hb2⟩
    have hb3 := hb1.trans (hb2.mono (by simp))
    clear hb2
    go_wp2_with fail
    go_ret
    exact ⟨rfl, hb3⟩

end Go.Proofs.Ytohmjpjjmhcjgaa.M
