/-
  Own text: a range over a map of cells, in plain words.
-/
import Derived.Test.YtnbgdkdnlfomeaaDoorBMap
import Derived.Maps.RangeRun
import Derived.Laws.IdiomRangeMap
namespace Go.Proofs.YtnbgdkdnlfomeaaDoor.M
open Go.ChangeShapes Go.WideShapes Go.ChangeAt Go.RowKit Go.ChangeMaps Go.MapKept Go.Maps
set_option linter.unusedSimpArgs false

/-- Block b is a map of the cells L, block r is one who goes through it; those of V have come. -/
structure MR (w : World) (b r : Nat) (L V : List Ce) : Prop where
  ex : ∃ es clock seen, w.heap[r]? = some (.mapIter (some b) clock seen clock) ∧ w.heap[b]? = some (.map es clock) ∧ Stamped es clock ∧ EntL es.toList L ∧ ∀ x ∈ es.toList, (seen.contains x.born = true ↔ ∃ c ∈ V, x.key = keyV c.k)
  ks : Keys L
  sub : ∀ c ∈ V, c ∈ L
  one : V.Pairwise fun a b => a.k ≠ b.k

/-- How many are left. -/
def leftC (w : World) (b r : Nat) : Nat := match w.heap[r]?, w.heap[b]? with | some (.mapIter _ _ seen _), some (.map es _) => (leftOf es seen).size | _, _ => 0

theorem Keys.inj {L : List Ce} (h : Keys L) {c d : Ce} (hc : c ∈ L) (hd : d ∈ L) (e : c.k = d.k) : c = d := by
  obtain ⟨i, hi⟩ := List.mem_iff_getElem?.1 hc
  obtain ⟨j, hj⟩ := List.mem_iff_getElem?.1 hd
  have hp := List.pairwise_iff_getElem.1 h.1
  obtain ⟨l1, g1⟩ := List.getElem?_eq_some_iff.1 hi
  obtain ⟨l2, g2⟩ := List.getElem?_eq_some_iff.1 hj
  rcases Nat.lt_trichotomy i j with hlt | heq | hgt
  · exact absurd (by rw [g1, g2, e]) (hp i j l1 l2 hlt)
  · subst heq; rw [← g1, ← g2]
  · exact absurd (by rw [g1, g2, e]) (hp j i l2 l1 hgt)

theorem EntL.inj {es : List MapEntry} {L : List Ce} (h : EntL es L) (hK : Keys L) {x e : MapEntry} (hx : x ∈ es) (he : e ∈ es) (hk : x.key = e.key) : x = e := by
  obtain ⟨i, hi⟩ := List.mem_iff_getElem?.1 hx
  obtain ⟨j, hj⟩ := List.mem_iff_getElem?.1 he
  obtain ⟨a1, a2, _⟩ := h.get hi
  obtain ⟨b1, b2, _⟩ := h.get hj
  have hm1 : L.getD i .z0 ∈ L := by rw [List.getD_eq_getElem?_getD, List.getElem?_eq_getElem a1]; exact List.getElem_mem a1
  have hm2 : L.getD j .z0 ∈ L := by rw [List.getD_eq_getElem?_getD, List.getElem?_eq_getElem b1]; exact List.getElem_mem b1
  have hkk : (L.getD i .z0).k = (L.getD j .z0).k := keyV_inj (hK.2 _ hm1) (hK.2 _ hm2) (by rw [← a2, ← b2, hk])
  have hp := List.pairwise_iff_getElem.1 hK.1
  rw [List.getD_eq_getElem?_getD, List.getD_eq_getElem?_getD, List.getElem?_eq_getElem a1, List.getElem?_eq_getElem b1] at hkk
  rcases Nat.lt_trichotomy i j with hlt | heq | hgt
  · exact absurd hkk (hp i j a1 b1 hlt)
  · subst heq; rw [hi] at hj; exact Option.some.inj hj
  · exact absurd hkk.symm (hp j i b1 a1 hgt)

theorem MR.lt {w : World} {b r : Nat} {L V : List Ce} (h : MR w b r L V) : b < w.heap.size ∧ r < w.heap.size ∧ b ≠ r := by
  obtain ⟨es, clock, seen, h1, h2, _⟩ := h.ex
  refine ⟨(Array.getElem?_eq_some_iff.1 h2).1, (Array.getElem?_eq_some_iff.1 h1).1, fun he => ?_⟩
  rw [he, h1] at h2
  cases h2

theorem MR.kept {w w' : World} {b r : Nat} {L V : List Ce} (h : MR w b r L V) (hb : w'.heap[b]? = w.heap[b]?) (hr : w'.heap[r]? = w.heap[r]?) : MR w' b r L V ∧ leftC w' b r = leftC w b r := by
  obtain ⟨es, clock, seen, h1, h2, h3⟩ := h.ex
  exact ⟨⟨⟨es, clock, seen, hr.trans h1, hb.trans h2, h3⟩, h.ks, h.sub, h.one⟩, by unfold leftC; rw [hb, hr]⟩

theorem MC.range {w : World} {b : Nat} {L : List Ce} (h : MC w b L) :
    ∃ o, (Instr.range 80 (.map (some b))).run Tryd.prog w = .ok (.pointer (some ⟨w.heap.size, 0, none⟩)) (w.alloc o) ∧ MR (w.alloc o) b w.heap.size L [] ∧ leftC (w.alloc o) b w.heap.size ≤ L.length := by
  obtain ⟨es, clock, h1, h2, h3⟩ := h.ex
  refine ⟨_, run_range_map w _ _ _ b es clock mapK h1, ⟨⟨es, clock, #[], heap_alloc_new _ _, ?_, h2, h3, fun x _ => ?_⟩, h.ks, fun c hc => absurd hc (List.not_mem_nil), List.Pairwise.nil⟩, ?_⟩
  · rw [heap_alloc_old _ _ (Array.getElem?_eq_some_iff.1 h1).1]; exact h1
  · simp
  · unfold leftC
    rw [heap_alloc_new, heap_alloc_old _ _ (Array.getElem?_eq_some_iff.1 h1).1, h1]
    have hl := h3.len
    show (leftOf es #[]).size ≤ L.length
    unfold leftOf
    have := Array.size_filter_le (p := fun e => !(#[] : Array Nat).contains e.born) (xs := es)
    rw [← hl, Array.length_toList]
    exact this

theorem MR.perm {w : World} {b r : Nat} {L V : List Ce} (h : MR w b r L V) (hall : ∀ c ∈ L, c ∈ V) : V.Perm L := by
  have n1 : V.Nodup := h.one.imp fun hab e => hab (by rw [e])
  have n2 : L.Nodup := h.ks.1.imp fun hab e => hab (by rw [e])
  exact (List.perm_ext_iff_of_nodup n1 n2).2 fun c => ⟨h.sub c, hall c⟩

theorem MR.next {w : World} {b r : Nat} {L V : List Ce} (h : MR w b r L V) (ty : TypeId) :
    ((Instr.next (.pointer (some ⟨r, 0, none⟩)) false ty).run Tryd.prog w = .ok (.tuple #[.bool false]) w ∧ V.Perm L) ∨
    ∃ c w1, c ∈ L ∧ (Instr.next (.pointer (some ⟨r, 0, none⟩)) false ty).run Tryd.prog w = .ok (.tuple #[.bool true, keyV c.k, celV c]) w1 ∧
      MR w1 b r L (V ++ [c]) ∧ leftC w1 b r < leftC w b r ∧ w1.heap.size = w.heap.size ∧ w1.os = w.os ∧ w1.tape = w.tape ∧ w1.output = w.output ∧ (∀ i, i ≠ r → w1.heap[i]? = w.heap[i]?) ∧
      ∀ W : World, W.heap[b]? = w1.heap[b]? → W.heap[r]? = w1.heap[r]? → (Instr.entry (.pointer (some ⟨r, 0, none⟩))).run Tryd.prog W = .ok (.tuple #[keyV c.k, celV c]) W := by
  have hlt := h.lt
  have hE := h
  obtain ⟨es, clock, seen, h1, h2, hst, E, hS⟩ := h.ex
  rcases run_next_at (P := Tryd.prog) w ty r b clock clock seen es clock h1 h2 hst.1 (Nat.le_refl _) with ⟨h0, hrun⟩ | ⟨e0, he0, wd, hwd, hrun⟩
  · refine Or.inl ⟨hrun, hE.perm fun c hc => ?_⟩
    obtain ⟨e, m1, m2, _⟩ := E.mem hc
    obtain ⟨d, hd, hk⟩ := (hS e m1).1 (all_seen es seen h0 e m1)
    have hdL := h.sub d hd
    have : c = d := h.ks.inj hc hdL (keyV_inj (h.ks.2 _ hc) (h.ks.2 _ hdL) (by rw [← m2, hk]))
    rw [this]
    exact hd
  · obtain ⟨hm, hns⟩ := mem_left he0
    obtain ⟨c, hc, hkc, hvc⟩ := E.back hm
    have hwh : wd.heap = w.heap ∧ wd.os = w.os ∧ wd.tape = w.tape ∧ wd.output = w.output := by rcases hwd with rfl | rfl <;> exact ⟨rfl, rfl, rfl, rfl⟩
    have hrl : r < wd.heap.size := by rw [hwh.1]; exact hlt.2.1
    have q1 : (setBlock wd r (.mapIter (some b) clock (seen.push e0.born) clock)).heap[r]? = some (.mapIter (some b) clock (seen.push e0.born) clock) := heap_setBlock wd r _ hrl
    have q2 : ∀ i, i ≠ r → (setBlock wd r (.mapIter (some b) clock (seen.push e0.born) clock)).heap[i]? = w.heap[i]? := fun i hi => by rw [heap_setBlock_ne wd r i _ hi, hwh.1]
    have q3 := (q2 b hlt.2.2).trans h2
    have hnew : ∀ d ∈ V, d.k ≠ c.k := fun d hd e => by
      have := (hS e0 hm).2 ⟨d, hd, by rw [hkc, e]⟩
      rw [hns] at this
      cases this
    rw [hkc, hvc] at hrun
    refine Or.inr ⟨c, _, hc, hrun, ⟨⟨es, clock, _, q1, q3, hst, E, fun x hx => ?_⟩, h.ks, fun d hd => ?_, ?_⟩, ?_, by simp [setBlock, hwh.1], hwh.2.1, hwh.2.2.1, hwh.2.2.2, q2, fun W hWb hWr => ?_⟩
    · rw [contains_push, Bool.or_eq_true_iff]
      constructor
      · rintro (hs | hs)
        · obtain ⟨d, hd, hk⟩ := (hS x hx).1 hs
          exact ⟨d, List.mem_append_left _ hd, hk⟩
        · rw [born_inj hst.2.1 hx hm (eq_of_beq hs)]
          exact ⟨c, List.mem_append_right _ (List.mem_singleton.2 rfl), hkc⟩
      · rintro ⟨d, hd, hk⟩
        rcases List.mem_append.1 hd with hd | hd
        · exact Or.inl ((hS x hx).2 ⟨d, hd, hk⟩)
        · rw [List.mem_singleton.1 hd] at hk
          rw [E.inj h.ks hx hm (hk.trans hkc.symm)]
          exact Or.inr (beq_self_eq_true _)
    · rcases List.mem_append.1 hd with hd | hd
      · exact h.sub d hd
      · rw [List.mem_singleton.1 hd]; exact hc
    · refine List.pairwise_append.2 ⟨h.one, List.pairwise_singleton _ _, fun x hx y hy => ?_⟩
      rw [List.mem_singleton.1 hy]
      exact hnew x hx
    · unfold leftC
      rw [q1, q3, h1, h2]
      exact left_shrinks es seen e0 he0
    · have := run_entry_at (P := Tryd.prog) W r b clock seen es clock e0 (hWr.trans q1) (hWb.trans q3) hm hst.2.1
      rw [hkc, hvc] at this
      exact this

end Go.Proofs.YtnbgdkdnlfomeaaDoor.M
