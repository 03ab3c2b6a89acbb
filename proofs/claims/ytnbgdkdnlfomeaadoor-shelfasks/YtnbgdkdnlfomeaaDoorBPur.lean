/-
  Own text: what follows of a shelf's invariant.
-/
import Derived.Test.YtnbgdkdnlfomeaaDoorBAsk
namespace Go.Proofs.YtnbgdkdnlfomeaaDoor.M
open Go.ChangeShapes Go.WideShapes Go.ChangeAt Go.RowKit Go.ChangeMaps Go.MapKept Go.Maps
set_option linter.unusedSimpArgs false

theorem adds_snoc (m : Sm) (l : List Rc) (x : Rc) : m.adds (l ++ [x]) = (m.adds l).add x := by simp [Sm.adds]

theorem adds_append (m : Sm) (l k : List Rc) : m.adds (l ++ k) = (m.adds l).adds k := by simp [Sm.adds]

theorem adds_end (m : Sm) (l : List Rc) : (m.adds l).ix = (endS m l).1 ∧ (m.adds l).ep = (endS m l).2 := by
  rcases List.eq_nil_or_concat l with rfl | ⟨k, x, rfl⟩
  · exact ⟨rfl, rfl⟩
  · rw [List.concat_eq_append, adds_snoc]
    unfold endS
    rw [List.getLast?_append]
    exact ⟨rfl, rfl⟩

theorem adds_mem : ∀ (l : List Rc) (m : Sm) (c : Ce), c ∈ (m.adds l).cs → c ∈ m.cs ∨ ∃ x ∈ l, c.k = x.k ∧ c.v = x.v ∧ c.s = x.s
  | [], _, _, h => Or.inl h
  | x :: l, m, c, h => by
    rcases adds_mem l (m.add x) c h with h1 | ⟨y, h1, h2⟩
    · rcases putC_mem h1 with h2 | h2 | h2
      · exact Or.inr ⟨x, List.mem_cons_self .., by rw [h2]; exact ⟨rfl, rfl, rfl⟩⟩
      · exact Or.inl h2.1
      · exact Or.inl h2
    · exact Or.inr ⟨y, List.mem_cons_of_mem _ h1, h2⟩

theorem Sh.inv.ixm {s : Sh} (h : s.inv) {x : Rc} (hx : x ∈ s.tail) : s.low.ix < x.ix ∧ x.ix ≤ s.last := by
  obtain ⟨i, hi⟩ := List.mem_iff_getElem?.1 hx
  obtain ⟨hl, e⟩ := List.getElem?_eq_some_iff.1 hi
  have h1 := h.ixs i hl
  rw [List.getD_eq_getElem?_getD, hi] at h1
  simp only [Option.getD_some] at h1
  unfold Sh.last
  omega

theorem Sh.inv.ver {s : Sh} (h : s.inv) {c : Ce} (hc : c ∈ (s.low.adds s.tail).cs) : 1 ≤ c.v ∧ c.v ≤ s.last := by
  have hl : s.last = s.low.ix + (s.tail.length : Nat) := rfl
  rcases adds_mem s.tail s.low c hc with h1 | ⟨x, h1, h2, h3, _⟩
  · have := h.vlo c h1
    omega
  · have h4 := h.vti x h1
    have h5 := h.ixm h1
    rw [h3]
    omega

theorem Sh.inv.top {s : Sh} (h : s.inv) (k : Nat) : 0 ≤ ((lookC (s.low.adds s.tail).cs k).getD .z0).v ∧ ((lookC (s.low.adds s.tail).cs k).getD .z0).v ≤ s.last := by
  have hl : s.last = s.low.ix + (s.tail.length : Nat) := rfl
  have h0 := h.ix0
  cases hf : lookC (s.low.adds s.tail).cs k with
  | none =>
    show (0 : Int) ≤ 0 ∧ (0 : Int) ≤ s.last
    omega
  | some c =>
    have := h.ver (lookC_mem hf).1
    show 0 ≤ c.v ∧ c.v ≤ s.last
    omega

theorem Sh.inv.big {s : Sh} (h : s.inv) : 0 ≤ s.last ∧ s.last ≤ 1099511627776 := by
  have h0 := h.ix0
  have h1 := h.ix1
  unfold Sh.last
  omega

theorem Sh.inv.aix {s : Sh} (h : s.inv) : (s.low.adds s.tail).ix = s.last := by rw [(adds_end _ _).1, Sh.inv.end s h]

end Go.Proofs.YtnbgdkdnlfomeaaDoor.M
