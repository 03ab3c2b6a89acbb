/-
  Own text: whether two chains are the same: contracts of the program's Same and of the reference's.
-/
import Derived.Test.YtcnkpgbmegppbaaYFirst
namespace Go.Proofs.Ytcnkpgbmegppbaa.M
open Go.ChangeShapes Go.WideShapes Go.ChangeAt Go.RowKit

set_option maxRecDepth 20000 in
theorem Same_any (e1 e2 : Int) (p q : Option Addr) (n m c d : Nat) (xs ys : List Mb) (w : World) (hp : RdM w p n c xs) (hq : RdM w q m d ys) (hn : n ≤ 5864062014805) (hm : m ≤ 5864062014805) :
    Calls Try.prog 32 #[.agg #[.int .i64 e1, .slice p n c], .agg #[.int .i64 e2, .slice q m d]] w fun e w' => e = .returned (.bool (e1 == e2 && eqMs xs ys)) ∧ Below w.heap.size w w' := by
  have hb0 : Below w.heap.size w ((w.alloc (.cells #[.int .i64 e1, .slice p n c] 42)).alloc (.cells #[.int .i64 e2, .slice q m d] 42)) := ((Below.refl _ _).alloc (Nat.le_refl _) _).alloc (by simp) _
  have hE := equalM_any p q n m c d xs ys _ (hp.below hb0) (hq.below hb0) hn hm
  generalize eqMs xs ys = R at *
  cases he : (e1 == e2) with
  | true =>
    rw [Bool.true_and]
    go_enter Try.func32, Try.ntmps32
    go_wp2_with fail
    refine hE.mono ?_
    rintro r w1 ⟨rfl, hb1⟩
    go_wp2_with fail
    go_ret
    exact ⟨rfl, hb0.trans (hb1.mono hb0.size)⟩
  | false =>
    rw [Bool.false_and]
    go_enter Try.func32, Try.ntmps32
    go_wp2_with fail
    go_ret
    exact ⟨rfl, hb0⟩

end Go.Proofs.Ytcnkpgbmegppbaa.M
