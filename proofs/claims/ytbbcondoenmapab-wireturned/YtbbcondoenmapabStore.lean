/-
  Own text: writing one number into a slice that the call itself owns.
-/
import Derived.Test.YtbbcondoenmapabMem
namespace Go.Proofs.Ytbbcondoenmapab.M
open Go.RowKit

theorem Ow.shape {k e w B p n c xs} (h : Ow k e w B p n c xs) (hn : 0 < n) : ∃ g, p = some ⟨g, 0, Option.none⟩ ∧ B ≤ g ∧ g < w.heap.size ∧ w.ownsRow B e 1 (.slice (some ⟨g, 0, Option.none⟩) n c) n (xs.map (Value.int k)) := by
  rcases h.own with ⟨h0, _⟩ | ho
  · omega
  · have ho' := ho
    rcases ho.2 with ⟨_, h0⟩ | ⟨g, cap, cur, hv, hg, hh, _⟩
    · omega
    · simp at hv
      obtain ⟨rfl, rfl⟩ := hv
      exact ⟨g, rfl, hg, (Array.getElem?_eq_some_iff.1 hh).1, ho'⟩

theorem Ow.store {k : IntKind} {e : TypeId} {w : World} {B g n c : Nat} {xs : List Int} (h : w.ownsRow B e 1 (.slice (some ⟨g, 0, Option.none⟩) n c) n (xs.map (Value.int k))) (hl : xs.length = n) (hB : B ≤ g) (hw : B ≤ w.heap.size) (t : Nat) (z : Int) :
    Ow k e (w.setCell ⟨g, t, Option.none⟩ (.int k z)) B (some ⟨g, 0, Option.none⟩) n c (xs.set t z) ∧ Below B w (w.setCell ⟨g, t, Option.none⟩ (.int k z)) := by
  obtain ⟨h1, h2⟩ := h.stored t (.int k z)
  refine ⟨⟨by rw [List.length_set]; exact hl, Or.inr ?_⟩, (Below.refl _ _).grown h2 hw fun j hj => by cases hj; exact hB⟩
  rw [List.map_set]
  exact h1

theorem set_split {xs : List Int} {t : Nat} (h : t < xs.length) (z : Int) : xs = xs.take t ++ xs.getD t 0 :: xs.drop (t + 1) ∧ xs.set t z = xs.take t ++ z :: xs.drop (t + 1) := by
  have e : xs = xs.take t ++ xs.getD t 0 :: xs.drop (t + 1) := by
    rw [List.getD_eq_getElem?_getD, List.getElem?_eq_getElem h, Option.getD_some, ← List.drop_eq_getElem_cons h, List.take_append_drop]
  refine ⟨e, ?_⟩
  rw [List.set_eq_take_append_cons_drop, if_pos h]

end Go.Proofs.Ytbbcondoenmapab.M
