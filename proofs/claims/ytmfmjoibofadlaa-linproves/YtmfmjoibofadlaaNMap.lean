/-
  Own text: a map as it lies in memory, in plain words: what stands at each key; look-up, store, delete.
-/
import Derived.Maps.Keyed
import Derived.DeepKeys4
import Derived.WideKeyEntry
import Derived.Test.YtmfmjoibofadlaaMem
namespace Go.Proofs.Ytmfmjoibofadlaa.M
open Go.ChangeMaps Go.MapKept Go.Maps

/-- Entries whose keys are keys, all unlike. -/
structure Ent (P : Program) (k : TypeId) (es : List MapEntry) : Prop where
  keys : ∀ e ∈ es, ∃ l, keyOf P k e.key = some l
  apart : es.Pairwise (fun a b => a.key ≠ b.key)

/-- What stands at a key. -/
def Stands (es : List MapEntry) (key : Value) : Option Value → Prop
  | none => ∀ e ∈ es, e.key ≠ key
  | some v => ∃ e ∈ es, e.key = key ∧ e.val = v

/-- Block b is a map that has this at each key. -/
def MapIs (P : Program) (k : TypeId) (w : World) (b n : Nat) (f : Value → Option Value) : Prop :=
  ∃ es clock, w.heap[b]? = some (.map es clock) ∧ (Stamped es clock ∧ es.size ≤ n) ∧ Ent P k es.toList ∧ ∀ key l, keyOf P k key = some l → Stands es.toList key (f key)

theorem Ent.at {P : Program} {k : TypeId} {es : List MapEntry} (h : Ent P k es) {i j : Nat} {a b : MapEntry} (ha : es[i]? = some a) (hb : es[j]? = some b) (hk : a.key = b.key) : i = j := by
  have hp := List.pairwise_iff_getElem.1 h.apart
  obtain ⟨hi, ea⟩ := List.getElem?_eq_some_iff.1 ha
  obtain ⟨hj, eb⟩ := List.getElem?_eq_some_iff.1 hb
  rcases Nat.lt_trichotomy i j with h1 | h1 | h1
  · exact absurd (by rw [ea, eb]; exact hk) (hp i j hi hj h1)
  · exact h1
  · exact absurd (by rw [ea, eb]; exact hk.symm) (hp j i hj hi h1)

theorem Ent.one {P : Program} {k : TypeId} {es : List MapEntry} (h : Ent P k es) {a b : MapEntry} (ha : a ∈ es) (hb : b ∈ es) (hk : a.key = b.key) : a = b := by
  obtain ⟨i, hi⟩ := List.mem_iff_getElem?.1 ha
  obtain ⟨j, hj⟩ := List.mem_iff_getElem?.1 hb
  have := h.at hi hj hk
  subst this
  rw [hi] at hj
  exact Option.some.inj hj

section
variable {P : Program} {k t e : TypeId} {w : World} {b n : Nat} {f : Value → Option Value} {key : Value} {kl : Lit}

theorem MapIs.lt (h : MapIs P k w b n f) : b < w.heap.size := by
  obtain ⟨es, clock, hb, _⟩ := h
  exact (Array.getElem?_eq_some_iff.1 hb).1

theorem MapIs.kept {w' : World} (h : MapIs P k w b n f) (hb : w'.heap[b]? = w.heap[b]?) : MapIs P k w' b n f := by
  obtain ⟨es, clock, h1, h2⟩ := h
  exact ⟨es, clock, hb.trans h1, h2⟩

theorem MapIs.made (w : World) : MapIs P k (w.alloc (.map #[] 0)) w.heap.size 0 (fun _ => none) :=
  ⟨#[], 0, heap_alloc_new _ _, ⟨stamped_empty 0, Nat.le_refl _⟩, ⟨(fun _ h => by cases h), List.Pairwise.nil⟩, (fun _ _ _ _ h => by cases h)⟩

/-- m[k] -/
theorem MapIs.look (h : MapIs P k w b n f) (K : Keyed P k) (ht : P.underlying t = some (.map k e)) {z : Value} (hz : (zeroValue e).run P w = .ok z w) (hkey : keyOf P k key = some kl) :
    (Instr.lookup t (.map (some b)) key false).run P w = .ok ((f key).getD z) w := by
  obtain ⟨es, clock, hb, ⟨_, _⟩, E, S⟩ := h
  have s := S key kl hkey
  rcases K.find w hkey es.toList E.keys with ⟨h1, h2⟩ | ⟨j, e0, h1, h2, h3⟩
  · have hf : f key = none := by
      cases hf : f key with
      | none => rfl
      | some v =>
        rw [hf] at s
        obtain ⟨e1, m1, m2, _⟩ := s
        exact absurd m2 (h2 e1 m1)
    rw [hf]
    simp [Instr.lookup, run_underlying ht, MapKept.run_getObj_map hb, K.check w _ hkey, h1, hz, Result.andThen]
  · have hm : e0 ∈ es.toList := List.mem_of_getElem? h2
    have hf : f key = some e0.val := by
      cases hf : f key with
      | none =>
        rw [hf] at s
        exact absurd h3 (s e0 hm)
      | some v =>
        rw [hf] at s
        obtain ⟨e1, m1, m2, m3⟩ := s
        rw [E.one hm m1 (h3.trans m2.symm), m3]
    rw [hf]
    simp [Instr.lookup, run_underlying ht, MapKept.run_getObj_map hb, K.check w _ hkey, h1, Result.andThen]

theorem heap_setBlock (w : World) (b : Nat) (o : Obj) (h : b < w.heap.size) : (setBlock w b o).heap[b]? = some o := by
  unfold setBlock
  simp [h]

theorem heap_setBlock_ne (w : World) (b i : Nat) (o : Obj) (h : i ≠ b) : (setBlock w b o).heap[i]? = w.heap[i]? := by
  unfold setBlock
  simp [Ne.symm h]

/-- m[k] = v -/
theorem MapIs.put (h : MapIs P k w b n f) (K : Keyed P k) (ht : P.underlying t = some (.map k e)) (hkey : keyOf P k key = some kl) (val : Value) :
    ∃ o, (Instr.mapUpdate t (.map (some b)) key val).run P w = .ok () (setBlock w b o) ∧ ∀ w3 f', w3.heap[b]? = some o → f' key = some val → (∀ x, x ≠ key → f' x = f x) → MapIs P k w3 b (n + 1) f' := by
  obtain ⟨es, clock, hb, ⟨hst, hsz⟩, E, S⟩ := h
  rcases K.find w hkey es.toList E.keys with ⟨h1, h2⟩ | ⟨j, e0, h1, h2, h3⟩
  · refine ⟨.map (es.push ⟨key, val, clock⟩) (clock + 1), ?_, fun w3 f' hw3 hk hx => ⟨_, _, hw3, ⟨stamped_push hst h2, by simp; omega⟩, ⟨fun e1 he => ?_, ?_⟩, fun x l hl => ?_⟩⟩
    · simp [Instr.mapUpdate, run_underlying ht, MapKept.run_getObj_map hb, K.check w false hkey, h1, MapKept.run_setObj_map _ hb, Result.andThen, setBlock]
    · rw [Array.toList_push] at he
      rcases List.mem_append.1 he with he | he
      · exact E.keys e1 he
      · rw [List.mem_singleton.1 he]; exact ⟨kl, hkey⟩
    · rw [Array.toList_push]
      refine List.pairwise_append.2 ⟨E.apart, List.pairwise_singleton _ _, fun a ha c hc => ?_⟩
      rw [List.mem_singleton.1 hc]
      exact h2 a ha
    · rw [Array.toList_push]
      by_cases hxk : x = key
      · subst hxk
        rw [hk]
        exact ⟨_, List.mem_append.2 (Or.inr (List.mem_singleton.2 rfl)), rfl, rfl⟩
      · rw [hx x hxk]
        have s := S x l hl
        cases hf : f x with
        | none =>
          rw [hf] at s
          intro e1 he
          rcases List.mem_append.1 he with he | he
          · exact s e1 he
          · rw [List.mem_singleton.1 he]; exact fun h => hxk h.symm
        | some v =>
          rw [hf] at s
          obtain ⟨e1, m1, m2, m3⟩ := s
          exact ⟨e1, List.mem_append.2 (Or.inl m1), m2, m3⟩
  · have hj : es[j]? = some e0 := by simpa using h2
    have hjl : j < es.toList.length := (List.getElem?_eq_some_iff.1 h2).1
    have hlist : (es.modify j (fun e' => { e' with key := key, val := val })).toList = es.toList.set j { e0 with key := key, val := val } := by rw [Array.toList_modify, modify_eq_set _ _ _ _ h2]
    have hnth : ∀ i, (es.toList.set j { e0 with key := key, val := val })[i]? = if i = j then some { e0 with key := key, val := val } else es.toList[i]? := fun i => by
      rw [List.getElem?_set]
      by_cases hi : j = i
      · subst hi; rw [if_pos rfl, if_pos rfl, if_pos hjl]
      · rw [if_neg hi, if_neg (fun h => hi h.symm)]
    have who : ∀ x ∈ es.toList.set j { e0 with key := key, val := val }, x = { e0 with key := key, val := val } ∨ (x ∈ es.toList ∧ x.key ≠ key) := by
      intro x hx
      obtain ⟨i, hi⟩ := List.mem_iff_getElem?.1 hx
      rw [hnth] at hi
      by_cases hij : i = j
      · rw [if_pos hij] at hi; exact Or.inl (Option.some.inj hi).symm
      · rw [if_neg hij] at hi
        exact Or.inr ⟨List.mem_of_getElem? hi, fun hk => hij (E.at hi h2 (hk.trans h3.symm))⟩
    have back : ∀ x ∈ es.toList, x.key ≠ key → x ∈ es.toList.set j { e0 with key := key, val := val } := by
      intro x hx hk
      obtain ⟨i, hi⟩ := List.mem_iff_getElem?.1 hx
      have hij : i ≠ j := fun h => by subst h; rw [h2] at hi; cases hi; exact hk h3
      exact List.mem_iff_getElem?.2 ⟨i, by rw [hnth, if_neg hij]; exact hi⟩
    have new : ({ e0 with key := key, val := val } : MapEntry) ∈ es.toList.set j { e0 with key := key, val := val } := List.mem_iff_getElem?.2 ⟨j, by rw [hnth, if_pos rfl]⟩
    refine ⟨.map (es.modify j (fun e' => { e' with key := key, val := val })) clock, ?_, fun w3 f' hw3 hk hx => ⟨_, _, hw3, ⟨stamped_modify hst _ _ (fun _ _ => rfl) (fun e' _ he' => by rw [hj] at he'; cases he'; exact h3.symm), by simp; omega⟩, ⟨fun e1 he => ?_, ?_⟩, fun x l hl => ?_⟩⟩
    · simp [Instr.mapUpdate, run_underlying ht, MapKept.run_getObj_map hb, K.check w false hkey, h1, hj, h3, K.stays w hkey, MapKept.run_setObj_map _ hb, Result.andThen, setBlock]
    · rw [hlist] at he
      rcases who e1 he with rfl | ⟨h4, _⟩
      · exact ⟨kl, hkey⟩
      · exact E.keys e1 h4
    · rw [hlist]
      refine List.pairwise_iff_getElem.2 fun i i' hi hi' hlt hkk => ?_
      have g1 : (es.toList.set j { e0 with key := key, val := val })[i]? = some _ := List.getElem?_eq_getElem hi
      have g2 : (es.toList.set j { e0 with key := key, val := val })[i']? = some _ := List.getElem?_eq_getElem hi'
      rw [hnth] at g1 g2
      by_cases a1 : i = j
      · rw [if_pos a1] at g1
        have a2 : i' ≠ j := by omega
        rw [if_neg a2] at g2
        have e1 := Option.some.inj g1
        rw [← e1] at hkk
        exact a2 (E.at g2 h2 (hkk.symm.trans h3.symm))
      · rw [if_neg a1] at g1
        by_cases a2 : i' = j
        · rw [if_pos a2] at g2
          have e1 := Option.some.inj g2
          rw [← e1] at hkk
          exact a1 (E.at g1 h2 (hkk.trans h3.symm))
        · rw [if_neg a2] at g2
          have := E.at g1 g2 hkk
          omega
    · rw [hlist]
      by_cases hxk : x = key
      · subst hxk
        rw [hk]
        exact ⟨_, new, rfl, rfl⟩
      · rw [hx x hxk]
        have s := S x l hl
        cases hf : f x with
        | none =>
          rw [hf] at s
          intro e1 he
          rcases who e1 he with rfl | ⟨h4, _⟩
          · exact fun h => hxk h.symm
          · exact s e1 h4
        | some v =>
          rw [hf] at s
          obtain ⟨e1, m1, m2, m3⟩ := s
          exact ⟨e1, back e1 m1 (fun h => hxk (m2.symm.trans h)), m2, m3⟩

/-- delete(m, k) -/
theorem MapIs.del (h : MapIs P k w b n f) (K : Keyed P k) (ht : P.underlying t = some (.map k e)) (ty : TypeId) (hkey : keyOf P k key = some kl) :
    ∃ o, (Builtin.delete_ #[t, k] ty #[.map (some b), key]).run P w = .ok (.tuple #[]) (setBlock w b o) ∧ ∀ w3 f', w3.heap[b]? = some o → f' key = none → (∀ x, x ≠ key → f' x = f x) → MapIs P k w3 b n f' := by
  obtain ⟨es, clock, hb, ⟨hst, hsz⟩, E, S⟩ := h
  rcases K.find w hkey es.toList E.keys with ⟨h1, h2⟩ | ⟨j, e0, h1, h2, h3⟩
  · refine ⟨.map es clock, ?_, fun w3 f' hw3 hk hx => ⟨es, clock, hw3, ⟨hst, hsz⟩, E, fun x l hl => ?_⟩⟩
    · simp [Builtin.delete_, run_underlying ht, MapKept.run_getObj_map hb, K.check w _ hkey, h1, MapKept.run_setObj_map _ hb, Result.andThen, setBlock]
    · by_cases hxk : x = key
      · subst hxk; rw [hk]; exact h2
      · rw [hx x hxk]; exact S x l hl
  · have hjl : j < es.toList.length := (List.getElem?_eq_some_iff.1 h2).1
    have hjs : j < es.size := by simpa using hjl
    have hsub : (es.eraseIdxIfInBounds j).toList = es.toList.eraseIdx j := by
      unfold Array.eraseIdxIfInBounds
      rw [dif_pos hjs]
      simp
    have hsl := List.eraseIdx_sublist es.toList j
    refine ⟨.map (es.eraseIdxIfInBounds j) clock, ?_, fun w3 f' hw3 hk hx => ⟨_, _, hw3, ⟨stamped_erase hst j, Nat.le_trans (MapFrom.size_erase es j) hsz⟩, ⟨fun e1 he => ?_, ?_⟩, fun x l hl => ?_⟩⟩
    · simp [Builtin.delete_, run_underlying ht, MapKept.run_getObj_map hb, K.check w _ hkey, h1, MapKept.run_setObj_map _ hb, Result.andThen, setBlock]
    · rw [hsub] at he
      exact E.keys e1 (hsl.subset he)
    · rw [hsub]
      exact E.apart.sublist hsl
    · rw [hsub]
      by_cases hxk : x = key
      · subst hxk
        rw [hk]
        intro e1 he hkk
        obtain ⟨i, hne, hi⟩ := List.mem_eraseIdx_iff_getElem?.1 he
        exact hne (E.at hi h2 (hkk.trans h3.symm))
      · rw [hx x hxk]
        have s := S x l hl
        cases hf : f x with
        | none =>
          rw [hf] at s
          exact fun e1 he => s e1 (hsl.subset he)
        | some v =>
          rw [hf] at s
          obtain ⟨e1, m1, m2, m3⟩ := s
          obtain ⟨i, hi⟩ := List.mem_iff_getElem?.1 m1
          have hij : i ≠ j := fun h => by subst h; rw [h2] at hi; cases hi; exact hxk (m2.symm.trans h3)
          exact ⟨e1, List.mem_eraseIdx_iff_getElem?.2 ⟨i, hij, hi⟩, m2, m3⟩

/-- m[k] = append(m[k], ..): the entry first, the store last. -/
theorem MapIs.entry (h : MapIs P k w b n f) (hn : n ≤ maxLen) (K : WideMaps.KeyLaw P k) (ht : P.underlying t = some (.map k e)) {z : Value} (hz : ∀ u : World, (zeroValue e).run P u = .ok z u) (hkey : keyOf P k key = some kl) :
    ∃ (st : Nat) (o1 : Obj), (Instr.mapEntry t (.map (some b)) key).run P w = .ok (.tuple #[(f key).getD z, goInt st]) (setBlock w b o1) ∧
      ∀ (w2 : World) (val : Value), w2.heap[b]? = some o1 → ∃ o2, (Instr.entryStore t (.map (some b)) (goInt st) val).run P w2 = .ok () (setBlock w2 b o2) ∧
        ∀ w3 f', w3.heap[b]? = some o2 → f' key = some val → (∀ x, x ≠ key → f' x = f x) → MapIs P k w3 b (n + 1) f' := by
  have hlt := h.lt
  have hlook := h.look (Keyed.of_law K) ht (hz w) hkey
  have hput := fun val => h.put (Keyed.of_law K) ht hkey val
  obtain ⟨es, clock, hb, ⟨hst, hsz⟩, E, S⟩ := h
  have F : WideElems.Fit P k (fun _ => some ((.nil : DataW Unit), [])) es clock := ⟨Nat.le_trans hsz hn, hst, fun x hx => by
    obtain ⟨l, hl⟩ := E.keys x hx
    exact ⟨_, WideElems.rd_mk (born := x.born) hl rfl⟩⟩
  obtain ⟨v0, st, es1, clock1, h1, h2, h3⟩ := WideElems.entry_then_store K ht hz hb F hkey
  have hv : v0 = (f key).getD z := by
    have s := S key kl hkey
    rcases h2 with ⟨e0, m1, m2, m3⟩ | ⟨m1, m2⟩
    · cases hf : f key with
      | none => rw [hf] at s; exact absurd m2 (s e0 m1)
      | some v =>
        rw [hf] at s
        obtain ⟨e1, n1, n2, n3⟩ := s
        rw [m3, E.one m1 n1 (m2.trans n2.symm), n3]
        rfl
    · cases hf : f key with
      | none => exact m2
      | some v =>
        rw [hf] at s
        obtain ⟨e1, n1, n2, n3⟩ := s
        exact absurd n2 (m1 e1 n1)
  refine ⟨st, .map es1 clock1, by rw [← hv]; exact h1, fun w2 val hw2 => ?_⟩
  obtain ⟨es2, clock2, g1, g2⟩ := h3 w2 val hw2
  obtain ⟨o, p1, p2⟩ := hput val
  have ho : o = .map es2 clock2 := by
    rw [p1] at g2
    injection g2 with _ g3
    have g4 := congrArg (fun W : World => W.heap[b]?) g3
    rw [heap_setBlock w b _ hlt, heap_setBlock w b _ hlt] at g4
    exact Option.some.inj g4
  exact ⟨.map es2 clock2, g1, fun w3 f' hw3 => p2 w3 f' (by rw [ho]; exact hw3)⟩

end

end Go.Proofs.Ytmfmjoibofadlaa.M
