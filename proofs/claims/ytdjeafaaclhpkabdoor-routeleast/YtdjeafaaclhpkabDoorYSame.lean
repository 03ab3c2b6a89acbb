/-
  Own text: whether two chains are the same: contracts of slices.Equal over members, of the program's Same and of the reference's.
-/
import Derived.Test.YtdjeafaaclhpkabDoorYRefC
namespace Go.Proofs.YtdjeafaaclhpkabDoor.M
open Go.ChangeShapes Go.WideShapes Go.ChangeAt Go.RowKit

theorem drop_split {l : List Mb} {k : Nat} (h : k < l.length) : l.drop k = l.getD k .z0 :: l.drop (k + 1) := drop_mb h

theorem dec_drop {xs ys : List Mb} {k : Nat} (h1 : k < xs.length) (h2 : k < ys.length) : eqMs (xs.drop k) (ys.drop k) = (eqM (xs.getD k .z0) (ys.getD k .z0) && eqMs (xs.drop (k + 1)) (ys.drop (k + 1))) := by
  rw [drop_mb h1, drop_mb h2]
  exact Bool.eq_iff_iff.2 (by rw [Bool.and_eq_true, eqMs_iff, eqM_iff, eqMs_iff]; exact List.cons_eq_cons)

theorem neqM (f g : Mb) (h : ¬ f = g) (w : World) : (binOp .neq 39 (.agg #[.int .i64 f.n, .int .i64 f.s, .bool f.f]) (.agg #[.int .i64 g.n, .int .i64 g.s, .bool g.f])).run Tryd.prog w = .ok (.bool true) w := by
  have u3 := Tryd.underlying3
  have a3 := Tryd.isAgg3
  have z3 := Tryd.sizeOf3
  have u4 := Tryd.underlying4
  have a4 := Tryd.isAgg4
  have z4 := Tryd.sizeOf4
  have hS : Tryd.prog.underlying 39 = some (.struct (Tryd.prog.fieldsOf 39)) := by kernel_rfl
  have hp : Tryd.prog.stoodInHeld 39 = false := by kernel_rfl
  obtain ⟨a, b, c⟩ := f
  obtain ⟨a', b', c'⟩ := g
  rw [run_neq_struct, show (10000 : Nat) = 9999 + 1 from rfl, run_equalIn_agg w 9999 39 _ _ hS hp]
  simp only [Program.fieldsOf, Tryd.underlying39]
  go_simp
  by_cases h1 : a = a'
  · by_cases h2 : b = b'
    · by_cases h3 : c = c'
      · subst h1 h2 h3; exact absurd rfl h
      · simp [h1, h2, h3]
    · simp [h1, h2]
  · simp [h1]

end Go.Proofs.YtdjeafaaclhpkabDoor.M
