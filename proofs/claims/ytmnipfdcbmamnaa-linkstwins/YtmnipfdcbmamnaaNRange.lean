/-
  Own text: a range over a map that only deletes, in plain words.
-/
import Derived.Test.YtmnipfdcbmamnaaNMap
import Derived.Maps.RangeRun
import Derived.Laws.IdiomRangeMap
namespace Go.Proofs.Ytmnipfdcbmamnaa.M
open Go.ChangeMaps Go.MapKept Go.Maps

/-- A map, and one who goes through it: those that came, and are still there, have D. -/
def RangeIs (P : Program) (k : TypeId) (w : World) (b r n : Nat) (f : Value → Option Value) (D : Value → Prop) : Prop :=
  ∃ es clock seen, w.heap[r]? = some (.mapIter (some b) clock seen clock) ∧ w.heap[b]? = some (.map es clock) ∧ (Stamped es clock ∧ es.size ≤ n) ∧ Ent P k es.toList ∧ (∀ key l, keyOf P k key = some l → Stands es.toList key (f key)) ∧
    ∀ x ∈ es.toList, seen.contains x.born = true → D x.key

/-- How many are left. -/
def leftN (w : World) (b r : Nat) : Nat := match w.heap[r]?, w.heap[b]? with | some (.mapIter _ _ seen _), some (.map es _) => (leftOf es seen).size | _, _ => 0

section
variable {P : Program} {k t e : TypeId} {w : World} {b r n : Nat} {f : Value → Option Value} {D : Value → Prop} {key : Value} {kl : Lit}

theorem RangeIs.map (h : RangeIs P k w b r n f D) : MapIs P k w b n f := by
  obtain ⟨es, clock, seen, _, h2, h3, h4, h5, _⟩ := h
  exact ⟨es, clock, h2, h3, h4, h5⟩

theorem RangeIs.kept {w' : World} (h : RangeIs P k w b r n f D) (hb : w'.heap[b]? = w.heap[b]?) (hr : w'.heap[r]? = w.heap[r]?) : RangeIs P k w' b r n f D ∧ leftN w' b r = leftN w b r := by
  obtain ⟨es, clock, seen, h1, h2, h3⟩ := h
  exact ⟨⟨es, clock, seen, hr.trans h1, hb.trans h2, h3⟩, by unfold leftN; rw [hb, hr]⟩

theorem RangeIs.mono {D' : Value → Prop} (h : RangeIs P k w b r n f D) (hD : ∀ v, D v → D' v) : RangeIs P k w b r n f D' := by
  obtain ⟨es, clock, seen, h1, h2, h3, h4, h5, h6⟩ := h
  exact ⟨es, clock, seen, h1, h2, h3, h4, h5, fun x hx hs => hD _ (h6 x hx hs)⟩

theorem RangeIs.lt (h : RangeIs P k w b r n f D) : b < w.heap.size ∧ r < w.heap.size ∧ b ≠ r := by
  obtain ⟨es, clock, seen, h1, h2, _⟩ := h
  refine ⟨(Array.getElem?_eq_some_iff.1 h2).1, (Array.getElem?_eq_some_iff.1 h1).1, fun he => ?_⟩
  rw [he, h1] at h2
  cases h2

theorem MapIs.range (h : MapIs P k w b n f) (ht : P.underlying t = some (.map k e)) :
    ∃ o, (Instr.range t (.map (some b))).run P w = .ok (.pointer (some ⟨w.heap.size, 0, none⟩)) (w.alloc o) ∧ RangeIs P k (w.alloc o) b w.heap.size n f D := by
  obtain ⟨es, clock, h1, h2, h3, h4⟩ := h
  refine ⟨_, run_range_map w t k e b es clock ht h1, es, clock, #[], heap_alloc_new _ _, ?_, h2, h3, h4, fun x _ hs => ?_⟩
  · rw [heap_alloc_old _ _ (Array.getElem?_eq_some_iff.1 h1).1]; exact h1
  · simp at hs

theorem RangeIs.next (h : RangeIs P k w b r n f D) (ty : TypeId) :
    ((Instr.next (.pointer (some ⟨r, 0, none⟩)) false ty).run P w = .ok (.tuple #[.bool false]) w ∧ ∀ key l v, keyOf P k key = some l → f key = some v → D key) ∨
    ∃ key l val w1, keyOf P k key = some l ∧ f key = some val ∧ (Instr.next (.pointer (some ⟨r, 0, none⟩)) false ty).run P w = .ok (.tuple #[.bool true, key, val]) w1 ∧
      RangeIs P k w1 b r n f (fun v => D v ∨ v = key) ∧ leftN w1 b r < leftN w b r ∧ w1.heap.size = w.heap.size ∧ w1.os = w.os ∧ w1.tape = w.tape ∧ w1.output = w.output ∧ (∀ i, i ≠ r → w1.heap[i]? = w.heap[i]?) ∧
      ∀ W : World, W.heap[b]? = w1.heap[b]? → W.heap[r]? = w1.heap[r]? → (Instr.entry (.pointer (some ⟨r, 0, none⟩))).run P W = .ok (.tuple #[key, val]) W := by
  have hlt := h.lt
  obtain ⟨es, clock, seen, h1, h2, ⟨hst, hn⟩, E, S, hD⟩ := h
  have hin : ∀ x ∈ es.toList, ∀ l, keyOf P k x.key = some l → f x.key = some x.val := by
    intro x hx l hl
    have s := S x.key l hl
    cases hf : f x.key with
    | none => rw [hf] at s; exact absurd rfl (s x hx)
    | some v =>
      rw [hf] at s
      obtain ⟨e1, m1, m2, m3⟩ := s
      rw [← m3, E.one m1 hx m2]
  rcases run_next_at (P := P) w ty r b clock clock seen es clock h1 h2 hst.1 (Nat.le_refl _) with ⟨h0, hrun⟩ | ⟨e0, he0, wd, hwd, hrun⟩
  · refine Or.inl ⟨hrun, fun key l v hk hf => ?_⟩
    have s := S key l hk
    rw [hf] at s
    obtain ⟨e1, m1, m2, _⟩ := s
    rw [← m2]
    exact hD e1 m1 (all_seen es seen h0 e1 m1)
  · obtain ⟨hm, hns⟩ := mem_left he0
    obtain ⟨l, hl⟩ := E.keys e0 hm
    have hwh : wd.heap = w.heap ∧ wd.os = w.os ∧ wd.tape = w.tape ∧ wd.output = w.output := by rcases hwd with rfl | rfl <;> exact ⟨rfl, rfl, rfl, rfl⟩
    have hrl : r < wd.heap.size := by rw [hwh.1]; exact hlt.2.1
    have q1 : (setBlock wd r (.mapIter (some b) clock (seen.push e0.born) clock)).heap[r]? = some (.mapIter (some b) clock (seen.push e0.born) clock) := heap_setBlock wd r _ hrl
    have q2 : ∀ i, i ≠ r → (setBlock wd r (.mapIter (some b) clock (seen.push e0.born) clock)).heap[i]? = w.heap[i]? := fun i hi => by rw [heap_setBlock_ne wd r i _ hi, hwh.1]
    have q3 := (q2 b hlt.2.2).trans h2
    refine Or.inr ⟨e0.key, l, e0.val, _, hl, hin e0 hm l hl, hrun, ⟨es, clock, _, q1, q3, ⟨hst, hn⟩, E, S, fun x hx hs => ?_⟩, ?_, by simp [setBlock, hwh.1], hwh.2.1, hwh.2.2.1, hwh.2.2.2, q2, fun W hWb hWr => ?_⟩
    · rw [contains_push] at hs
      rcases Bool.or_eq_true_iff.1 hs with hs | hs
      · exact Or.inl (hD x hx hs)
      · exact Or.inr (by rw [born_inj hst.2.1 hx hm (eq_of_beq hs)])
    · unfold leftN
      rw [q1, q3, h1, h2]
      exact left_shrinks es seen e0 he0
    · exact run_entry_at (P := P) W r b clock seen es clock e0 (hWr.trans q1) (hWb.trans q3) hm hst.2.1

theorem left_sub {es es' : Array MapEntry} (seen : Array Nat) (h : es'.toList.Sublist es.toList) : (leftOf es' seen).size ≤ (leftOf es seen).size := by
  have key : ∀ a : Array MapEntry, (leftOf a seen).size = (a.toList.filter fun e => !seen.contains e.born).length := fun a => by
    unfold leftOf
    rw [← Array.toList_filter, Array.length_toList]
  rw [key, key]
  exact (h.filter _).length_le

/-- delete of one. -/
theorem RangeIs.del (h : RangeIs P k w b r n f D) (K : Keyed P k) (ht : P.underlying t = some (.map k e)) (ty : TypeId) (hkey : keyOf P k key = some kl) :
    ∃ o, (Builtin.delete_ #[t, k] ty #[.map (some b), key]).run P w = .ok (.tuple #[]) (setBlock w b o) ∧ ∀ f', f' key = none → (∀ x, x ≠ key → f' x = f x) → RangeIs P k (setBlock w b o) b r n f' (fun v => D v ∧ v ≠ key) ∧ leftN (setBlock w b o) b r ≤ leftN w b r := by
  have hlt := h.lt
  obtain ⟨es, clock, seen, h1, hb, ⟨hst, hsz⟩, E, S, hD⟩ := h
  rcases K.find w hkey es.toList E.keys with ⟨g1, g2⟩ | ⟨j, e0, g1, g2, g3⟩
  · refine ⟨.map es clock, ?_, fun f' hk hx => ?_⟩
    · simp [Builtin.delete_, run_underlying ht, MapKept.run_getObj_map hb, K.check w _ hkey, g1, MapKept.run_setObj_map _ hb, Result.andThen, setBlock]
    · have q1 := heap_setBlock w b (.map es clock) hlt.1
      have q2 := (heap_setBlock_ne w b r (.map es clock) (Ne.symm hlt.2.2)).trans h1
      refine ⟨⟨es, clock, seen, q2, q1, ⟨hst, hsz⟩, E, fun x l hl => ?_, fun x hx hs => ⟨hD x hx hs, g2 x hx⟩⟩, ?_⟩
      · by_cases hxk : x = key
        · subst hxk; rw [hk]; exact g2
        · rw [hx x hxk]; exact S x l hl
      · unfold leftN
        rw [q1, q2, h1, hb]
        exact Nat.le_refl _
  · have hjl : j < es.toList.length := (List.getElem?_eq_some_iff.1 g2).1
    have hjs : j < es.size := by simpa using hjl
    have hsub : (es.eraseIdxIfInBounds j).toList = es.toList.eraseIdx j := by
      unfold Array.eraseIdxIfInBounds
      rw [dif_pos hjs]
      simp
    have hsl := List.eraseIdx_sublist es.toList j
    have hgone : ∀ e1 ∈ es.toList.eraseIdx j, e1.key ≠ key := by
      intro e1 he hkk
      obtain ⟨i, hne, hi⟩ := List.mem_eraseIdx_iff_getElem?.1 he
      exact hne (E.at hi g2 (hkk.trans g3.symm))
    refine ⟨.map (es.eraseIdxIfInBounds j) clock, ?_, fun f' hk hx => ?_⟩
    · simp [Builtin.delete_, run_underlying ht, MapKept.run_getObj_map hb, K.check w _ hkey, g1, MapKept.run_setObj_map _ hb, Result.andThen, setBlock]
    · have q1 := heap_setBlock w b (.map (es.eraseIdxIfInBounds j) clock) hlt.1
      have q2 := (heap_setBlock_ne w b r (.map (es.eraseIdxIfInBounds j) clock) (Ne.symm hlt.2.2)).trans h1
      refine ⟨⟨_, clock, seen, q2, q1, ⟨stamped_erase hst j, Nat.le_trans (MapFrom.size_erase es j) hsz⟩, ⟨fun e1 he => ?_, ?_⟩, fun x l hl => ?_, fun x hx2 hs => ?_⟩, ?_⟩
      · rw [hsub] at he
        exact E.keys e1 (hsl.subset he)
      · rw [hsub]
        exact E.apart.sublist hsl
      · rw [hsub]
        by_cases hxk : x = key
        · subst hxk
          rw [hk]
          exact hgone
        · rw [hx x hxk]
          have s := S x l hl
          cases hf : f x with
          | none =>
            rw [hf] at s
            exact fun e1 he => s e1 (hsl.subset he)
          | some v =>
            rw [hf] at s
            obtain ⟨e1, m1, m2, m3⟩ := s
            obtain ⟨i, hi⟩ := List.mem_iff_getElem?.1 m1
            have hij : i ≠ j := fun h => by subst h; rw [g2] at hi; cases hi; exact hxk (m2.symm.trans g3)
            exact ⟨e1, List.mem_eraseIdx_iff_getElem?.2 ⟨i, hij, hi⟩, m2, m3⟩
      · rw [hsub] at hx2
        exact ⟨hD x (hsl.subset hx2) hs, hgone x hx2⟩
      · unfold leftN
        rw [q1, q2, h1, hb]
        exact left_sub seen (by rw [hsub]; exact hsl)

end

end Go.Proofs.Ytmnipfdcbmamnaa.M
