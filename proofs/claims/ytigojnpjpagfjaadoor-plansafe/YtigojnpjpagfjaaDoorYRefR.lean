/-
  Own text: the contract of the reference's Ready.
-/
import Derived.Test.YtigojnpjpagfjaaDoorYRefA
namespace Go.Proofs.YtigojnpjpagfjaaDoor.M
open Go.ChangeShapes Go.WideShapes Go.ChangeAt Go.RowKit

theorem set_take_snoc (ms : List Mb) (i k : Nat) (h : k < ms.length) : ((ms.set i { ms.getD i .z0 with f := false }).take (k + 1)) = (ms.set i { ms.getD i .z0 with f := false }).take k ++ [⟨(ms.getD k .z0).n, (ms.getD k .z0).s, (ms.getD k .z0).f && !(decide (k = i))⟩] := by
  rw [take_snoc_mb (by simpa using h)]
  congr 2
  rw [List.getD_eq_getElem?_getD, List.getElem?_set]
  by_cases hk : i = k
  · subst hk
    simp [h]
  · have hk' : ¬ k = i := fun h => hk h.symm
    rw [if_neg hk, decide_eq_false hk', ← List.getD_eq_getElem?_getD]
    simp

end Go.Proofs.YtigojnpjpagfjaaDoor.M
