/-
  Own text: arrays of integers that are held side by side: one of them written, one more made.
-/
import Derived.Test.YtlmmidlegdmjpaaGLast
import Derived.Test.YtlmmidlegdmjpaaDet2
namespace Go.Proofs.Ytlmmidlegdmjpaa.M
open Go.ChangeShapes Go.WideShapes Go.ChangeAt Go.RowKit

/-- Where the arrays of a list lie. -/
def places (l : List (TypeId × IntKind × Nat × List Int)) : List Nat := l.map fun a => a.2.2.1

theorem set_mem {α : Type} {l : List α} {i : Nat} {x y : α} (h : y ∈ l.set i x) : y = x ∨ ∃ j, j ≠ i ∧ l[j]? = some y := by
  obtain ⟨j, hj, rfl⟩ := List.getElem_of_mem h
  by_cases e : i = j
  · subst e
    exact Or.inl (by rw [List.getElem_set_self])
  · refine Or.inr ⟨j, fun h => e h.symm, ?_⟩
    rw [List.getElem_set_ne e, ← List.getElem?_eq_getElem]

theorem other_place {l : List (TypeId × IntKind × Nat × List Int)} {i j : Nat} {a b : TypeId × IntKind × Nat × List Int} (hn : (places l).Nodup) (hi : l[i]? = some a) (hj : l[j]? = some b) (hne : j ≠ i) : b.2.2.1 ≠ a.2.2.1 := by
  intro e
  have h1 : (places l)[i]? = some a.2.2.1 := by rw [places, List.getElem?_map, hi]; rfl
  have h2 : (places l)[j]? = some a.2.2.1 := by rw [places, List.getElem?_map, hj, ← e]; rfl
  have hl1 : i < (places l).length := (List.getElem?_eq_some_iff.1 h1).1
  exact hne (((List.getElem?_inj hl1 hn).1 (h1.trans h2.symm)).symm)

theorem Hold.set {w : World} {l : List (TypeId × IntKind × Nat × List Int)} {W : World} (h : Hold w l W) (hn : (places l).Nodup) (i : Nat) {t : TypeId} {k : IntKind} {g : Nat} {xs : List Int} (hi : l[i]? = some (t, k, g, xs)) (hg : w.heap.size ≤ g) (o : Nat) (x : Int) :
    Hold w (l.set i (t, k, g, xs.set o x)) (W.setCell ⟨g, o, none⟩ (.int k x)) := by
  refine ⟨fun a ha => ?_, h.2.setCell hg _⟩
  rcases set_mem ha with rfl | ⟨j, hne, hj⟩
  · exact (h.at i hi).set o x
  · exact (h.1 a (List.mem_of_getElem? hj)).other _ _ _ (fun e => other_place hn hi hj hne e.symm)

theorem Hold.row {w : World} {l : List (TypeId × IntKind × Nat × List Int)} {W : World} (h : Hold w l W) (hn : (places l).Nodup) (i : Nat) {t : TypeId} {k : IntKind} {g : Nat} {xs : List Int} (hi : l[i]? = some (t, k, g, xs)) (hg : w.heap.size ≤ g) (ys : List Int) :
    Hold w (l.set i (t, k, g, ys)) (W.setRow g (nums k ys)) := by
  refine ⟨fun a ha => ?_, h.2.trans (below_setRow W g (nums k ys) hg)⟩
  rcases set_mem ha with rfl | ⟨j, hne, hj⟩
  · exact (h.at i hi).setRow ys
  · exact (h.1 a (List.mem_of_getElem? hj)).rowOther _ _ (other_place hn hi hj hne)

theorem Hold.new {w : World} {l : List (TypeId × IntKind × Nat × List Int)} {W : World} (h : Hold w l W) (t : TypeId) (k : IntKind) (xs : List Int) : Hold w ((t, k, W.heap.size, xs) :: l) (W.alloc (.cells (nums k xs) t)) :=
  Hold.cons (ArrI.new t k W xs) (h.below (below_alloc _ _))

theorem Hold.stays (w : World) (l : List (TypeId × IntKind × Nat × List Int)) : Stays (Hold w l) := fun _ _ h hb => h.below hb

theorem Hold.lt {w : World} {l : List (TypeId × IntKind × Nat × List Int)} {W : World} (h : Hold w l W) : ∀ g ∈ places l, g < W.heap.size := by
  intro g hg
  obtain ⟨a, ha, rfl⟩ := List.mem_map.1 hg
  exact (h.1 a ha).lt

theorem Hold.tail {w : World} {a : TypeId × IntKind × Nat × List Int} {l : List (TypeId × IntKind × Nat × List Int)} {W : World} (h : Hold w (a :: l) W) : Hold w l W := ⟨fun b hb => h.1 b (List.mem_cons_of_mem _ hb), h.2⟩

theorem Hold.sub {w : World} {l l' : List (TypeId × IntKind × Nat × List Int)} {W : World} (h : Hold w l W) (hs : ∀ a ∈ l', a ∈ l) : Hold w l' W := ⟨fun b hb => h.1 b (hs b hb), h.2⟩

end Go.Proofs.Ytlmmidlegdmjpaa.M
