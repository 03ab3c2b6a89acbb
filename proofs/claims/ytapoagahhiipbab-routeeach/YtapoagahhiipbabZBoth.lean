/-
  Own text: route's Read, Near and Write answer as the reference's, of any chain, ways and sites.
-/
import Derived.Test.YtapoagahhiipbabZAwake
namespace Go.Proofs.Ytapoagahhiipbab.M
open Go.ChangeShapes Go.WideShapes Go.ChangeAt Go.RowKit

theorem may_zero {e : Int} {ms : List Mb} {xs : List Int} {st : Int} (h : mayR e ms xs st = 0) : chk e ms = true ∧ okW xs = true ∧ ∃ i0 : Nat, i0 < 3 ∧ st = (i0 : Int) := by
  unfold mayR at h
  split at h
  · next h1 =>
    split at h
    · next h2 =>
      refine ⟨h1, h2.1, ?_⟩
      have h3 := h2.2
      unfold isSt at h3
      simp at h3
      exact ⟨st.toNat, by omega, by omega⟩
    · cases h
  · cases h

end Go.Proofs.Ytapoagahhiipbab.M
