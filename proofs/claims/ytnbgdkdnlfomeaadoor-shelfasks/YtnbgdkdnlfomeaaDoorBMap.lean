/-
  Own text: a map of cells in memory: look-up, store, how many, a clone; in plain words.
-/
import Derived.Test.YtnbgdkdnlfomeaaDoorBDat
import Derived.Shelf.SlMaps.Clone
namespace Go.Proofs.YtnbgdkdnlfomeaaDoor.M
open Go.ChangeShapes Go.WideShapes Go.ChangeAt Go.RowKit Go.ChangeMaps Go.MapKept Go.Maps
set_option linter.unusedSimpArgs false

/-- What stands at a key. -/
def lookC : List Ce → Nat → Option Ce
  | [], _ => none
  | c :: l, n => if c.k = n then some c else lookC l n

/-- A cell in its place; a new one at the end. -/
def putC : List Ce → Ce → List Ce
  | [], c => [c]
  | x :: l, c => if x.k = c.k then c :: l else x :: putC l c

def Keys (L : List Ce) : Prop := L.Pairwise (fun a b => a.k ≠ b.k) ∧ ∀ c ∈ L, c.k < 18446744073709551616

theorem Keys.nil : Keys [] := ⟨List.Pairwise.nil, fun _ h => by cases h⟩

theorem Keys.tail {c : Ce} {l : List Ce} (h : Keys (c :: l)) : Keys l := ⟨(List.pairwise_cons.1 h.1).2, fun x hx => h.2 x (List.mem_cons_of_mem _ hx)⟩

theorem lookC_mem : ∀ {l : List Ce} {n : Nat} {c : Ce}, lookC l n = some c → c ∈ l ∧ c.k = n
  | [], _, _, h => by cases h
  | x :: l, n, c, h => by
    unfold lookC at h
    split at h
    · next e => cases h; exact ⟨List.mem_cons_self .., e⟩
    · have := lookC_mem h; exact ⟨List.mem_cons_of_mem _ this.1, this.2⟩

theorem lookC_none : ∀ {l : List Ce} {n : Nat}, lookC l n = none → ∀ c ∈ l, c.k ≠ n
  | [], _, _, c, hc => by cases hc
  | x :: l, n, h, c, hc => by
    unfold lookC at h
    split at h
    · cases h
    · next e =>
      rcases List.mem_cons.1 hc with rfl | hc
      · exact e
      · exact lookC_none h c hc

theorem putC_mem : ∀ {l : List Ce} {c x : Ce}, x ∈ putC l c → x = c ∨ (x ∈ l ∧ x.k ≠ c.k) ∨ x ∈ l
  | [], c, x, h => Or.inl (List.mem_singleton.1 h)
  | y :: l, c, x, h => by
    unfold putC at h
    split at h
    · rcases List.mem_cons.1 h with h | h
      · exact Or.inl h
      · exact Or.inr (Or.inr (List.mem_cons_of_mem _ h))
    · rcases List.mem_cons.1 h with h | h
      · exact Or.inr (Or.inr (h ▸ List.mem_cons_self ..))
      · rcases putC_mem h with h | h | h
        · exact Or.inl h
        · exact Or.inr (Or.inl ⟨List.mem_cons_of_mem _ h.1, h.2⟩)
        · exact Or.inr (Or.inr (List.mem_cons_of_mem _ h))

theorem putC_keys : ∀ {l : List Ce} {c : Ce}, Keys l → c.k < 18446744073709551616 → Keys (putC l c)
  | [], c, _, hc => ⟨List.pairwise_singleton _ _, fun x hx => by rw [List.mem_singleton.1 hx]; exact hc⟩
  | y :: l, c, h, hc => by
    unfold putC
    split
    · next e =>
      refine ⟨List.pairwise_cons.2 ⟨fun x hx => ?_, (List.pairwise_cons.1 h.1).2⟩, fun x hx => ?_⟩
      · rw [← e]; exact (List.pairwise_cons.1 h.1).1 x hx
      · rcases List.mem_cons.1 hx with rfl | hx
        · exact hc
        · exact h.2 x (List.mem_cons_of_mem _ hx)
    · next e =>
      have ih := putC_keys h.tail hc
      refine ⟨List.pairwise_cons.2 ⟨fun x hx => ?_, ih.1⟩, fun x hx => ?_⟩
      · rcases putC_mem hx with rfl | h2 | h2
        · exact e
        · exact (List.pairwise_cons.1 h.1).1 x h2.1
        · exact (List.pairwise_cons.1 h.1).1 x h2
      · rcases List.mem_cons.1 hx with rfl | hx
        · exact h.2 _ (List.mem_cons_self ..)
        · exact ih.2 x hx

theorem putC_new : ∀ {l : List Ce} {c : Ce}, lookC l c.k = none → putC l c = l ++ [c]
  | [], _, _ => rfl
  | x :: l, c, h => by
    unfold lookC at h
    unfold putC
    split at h
    · cases h
    · next e => rw [if_neg e, putC_new h]; rfl

theorem putC_old : ∀ {l : List Ce} {c : Ce} {j : Nat}, Keys l → j < l.length → (l.getD j .z0).k = c.k → putC l c = l.set j c
  | [], _, _, _, h, _ => by cases h
  | x :: l, c, 0, _, _, h => by
    unfold putC
    rw [if_pos (show x.k = c.k from h)]
    rfl
  | x :: l, c, j + 1, hK, hj, h => by
    have hjl : j < l.length := by simpa using hj
    have hm : l.getD j .z0 ∈ l := by rw [List.getD_eq_getElem?_getD, List.getElem?_eq_getElem hjl]; exact List.getElem_mem hjl
    have hne : x.k ≠ c.k := fun e => (List.pairwise_cons.1 hK.1).1 _ hm (e.trans h.symm)
    unfold putC
    rw [if_neg hne, putC_old hK.tail hjl h]
    rfl

/-- Entries that are these cells, in this order. -/
def EntL (es : List MapEntry) (L : List Ce) : Prop := es.map (fun e => (e.key, e.val)) = L.map (fun c => (keyV c.k, celV c))

theorem EntL.len {es : List MapEntry} {L : List Ce} (h : EntL es L) : es.length = L.length := by simpa using congrArg List.length h

theorem EntL.get {es : List MapEntry} {L : List Ce} (h : EntL es L) {i : Nat} {e : MapEntry} (he : es[i]? = some e) : i < L.length ∧ e.key = keyV (L.getD i .z0).k ∧ e.val = celV (L.getD i .z0) := by
  have hi := (List.getElem?_eq_some_iff.1 he).1
  have hl := h.len
  have h1 := congrArg (fun l => l[i]?) h
  simp only [List.getElem?_map, he, Option.map_some] at h1
  rw [List.getElem?_eq_getElem (by omega), Option.map_some] at h1
  injection h1 with h1
  injection h1 with h1 h2
  rw [List.getD_eq_getElem?_getD, List.getElem?_eq_getElem (by omega)]
  exact ⟨by omega, h1, h2⟩

theorem EntL.mem {es : List MapEntry} {L : List Ce} (h : EntL es L) {c : Ce} (hc : c ∈ L) : ∃ e ∈ es, e.key = keyV c.k ∧ e.val = celV c := by
  have : (keyV c.k, celV c) ∈ es.map (fun e => (e.key, e.val)) := by rw [h]; exact List.mem_map.2 ⟨c, hc, rfl⟩
  obtain ⟨e, h1, h2⟩ := List.mem_map.1 this
  injection h2 with h2 h3
  exact ⟨e, h1, h2, h3⟩

theorem EntL.back {es : List MapEntry} {L : List Ce} (h : EntL es L) {e : MapEntry} (he : e ∈ es) : ∃ c ∈ L, e.key = keyV c.k ∧ e.val = celV c := by
  obtain ⟨i, hi⟩ := List.mem_iff_getElem?.1 he
  obtain ⟨h1, h2, h3⟩ := h.get hi
  refine ⟨L.getD i .z0, ?_, h2, h3⟩
  rw [List.getD_eq_getElem?_getD, List.getElem?_eq_getElem h1]
  exact List.getElem_mem h1

theorem EntL.keys {es : List MapEntry} {L : List Ce} (h : EntL es L) : ∀ e ∈ es, ∃ l, keyOf Tryd.prog 28 e.key = some l := fun e he => by
  obtain ⟨c, _, h1, _⟩ := h.back he
  rw [h1]
  exact key_ok c.k

/-- Block b is a map of these cells. -/
structure MC (w : World) (b : Nat) (L : List Ce) : Prop where
  ex : ∃ es clock, w.heap[b]? = some (.map es clock) ∧ Stamped es clock ∧ EntL es.toList L
  ks : Keys L

theorem MC.lt {w : World} {b : Nat} {L : List Ce} (h : MC w b L) : b < w.heap.size := by
  obtain ⟨es, clock, hb, _⟩ := h.ex
  exact (Array.getElem?_eq_some_iff.1 hb).1

theorem MC.kept {w w' : World} {b : Nat} {L : List Ce} (h : MC w b L) (hb : w'.heap[b]? = w.heap[b]?) : MC w' b L := by
  obtain ⟨es, clock, h1, h2⟩ := h.ex
  exact ⟨⟨es, clock, hb.trans h1, h2⟩, h.ks⟩

theorem MC.below {w w' : World} {b : Nat} {L : List Ce} (h : MC w b L) (hb : Below w.heap.size w w') : MC w' b L := h.kept (hb.block _ h.lt)

theorem MC.made (w : World) : MC (w.alloc (.map #[] 0)) w.heap.size [] := ⟨⟨#[], 0, heap_alloc_new _ _, stamped_empty 0, rfl⟩, Keys.nil⟩

/-- v, ok := m[k] -/
theorem MC.lookOk {w : World} {b : Nat} {L : List Ce} (h : MC w b L) {n : Nat} (hn : n < 18446744073709551616) :
    (Instr.lookup 80 (.map (some b)) (keyV n) true).run Tryd.prog w = .ok (.tuple #[celV ((lookC L n).getD .z0), .bool (lookC L n).isSome]) w := by
  obtain ⟨es, clock, hb, _, E⟩ := h.ex
  obtain ⟨kl, hkl⟩ := key_ok n
  rcases keyd.find w hkl es.toList E.keys with ⟨h1, h2⟩ | ⟨j, e0, h1, h2, h3⟩
  · have hf : lookC L n = none := by
      cases hf : lookC L n with
      | none => rfl
      | some c =>
        obtain ⟨m1, m2⟩ := lookC_mem hf
        obtain ⟨e, m3, m4, _⟩ := E.mem m1
        exact absurd (m4.trans (by rw [m2])) (h2 e m3)
    rw [hf]
    simp [Instr.lookup, run_underlying mapK, MapKept.run_getObj_map hb, keyd.check w _ hkl, h1, zeroC w, Result.andThen]
  · obtain ⟨m1, m2, m3⟩ := E.get h2
    have hm : L.getD j .z0 ∈ L := by rw [List.getD_eq_getElem?_getD, List.getElem?_eq_getElem m1]; exact List.getElem_mem m1
    have hkn : (L.getD j .z0).k = n := keyV_inj (h.ks.2 _ hm) hn (m2.symm.trans h3)
    have hf : lookC L n = some (L.getD j .z0) := by
      cases hf : lookC L n with
      | none => exact absurd hkn (lookC_none hf _ hm)
      | some c =>
        obtain ⟨q1, q2⟩ := lookC_mem hf
        obtain ⟨i1, hi1⟩ := List.mem_iff_getElem?.1 q1
        obtain ⟨i2, hi2⟩ := List.mem_iff_getElem?.1 hm
        have hp := List.pairwise_iff_getElem.1 h.ks.1
        obtain ⟨l1, g1⟩ := List.getElem?_eq_some_iff.1 hi1
        obtain ⟨l2, g2⟩ := List.getElem?_eq_some_iff.1 hi2
        rcases Nat.lt_trichotomy i1 i2 with hlt | heq | hgt
        · exact absurd (by rw [g1, g2, q2, hkn]) (hp i1 i2 l1 l2 hlt)
        · subst heq; rw [← g1, ← g2]
        · exact absurd (by rw [g1, g2, q2, hkn]) (hp i2 i1 l2 l1 hgt)
    rw [hf]
    simp [Instr.lookup, run_underlying mapK, MapKept.run_getObj_map hb, keyd.check w _ hkl, h1, m3, Result.andThen]

/-- m[k] -/
theorem MC.look {w : World} {b : Nat} {L : List Ce} (h : MC w b L) {n : Nat} (hn : n < 18446744073709551616) :
    (Instr.lookup 80 (.map (some b)) (keyV n) false).run Tryd.prog w = .ok (celV ((lookC L n).getD .z0)) w := by
  obtain ⟨es, clock, hb, _, E⟩ := h.ex
  obtain ⟨kl, hkl⟩ := key_ok n
  have h0 := h.lookOk hn
  rcases keyd.find w hkl es.toList E.keys with ⟨h1, h2⟩ | ⟨j, e0, h1, h2, h3⟩
  · simp [Instr.lookup, run_underlying mapK, MapKept.run_getObj_map hb, keyd.check w _ hkl, h1, zeroC w, Result.andThen] at h0 ⊢
    exact h0.1
  · simp [Instr.lookup, run_underlying mapK, MapKept.run_getObj_map hb, keyd.check w _ hkl, h1, Result.andThen] at h0 ⊢
    exact h0.1

/-- m[k] = v -/
theorem MC.put {w : World} {b : Nat} {L : List Ce} (h : MC w b L) {c : Ce} (hc : c.k < 18446744073709551616) :
    ∃ o, (Instr.mapUpdate 80 (.map (some b)) (keyV c.k) (celV c)).run Tryd.prog w = .ok () (setBlock w b o) ∧ ∀ w3 : World, w3.heap[b]? = some o → MC w3 b (putC L c) := by
  obtain ⟨es, clock, hb, hst, E⟩ := h.ex
  obtain ⟨kl, hkl⟩ := key_ok c.k
  rcases keyd.find w hkl es.toList E.keys with ⟨h1, h2⟩ | ⟨j, e0, h1, h2, h3⟩
  · refine ⟨.map (es.push ⟨keyV c.k, celV c, clock⟩) (clock + 1), ?_, fun w3 hw3 => ⟨⟨_, _, hw3, stamped_push hst h2, ?_⟩, putC_keys h.ks hc⟩⟩
    · simp [Instr.mapUpdate, run_underlying mapK, MapKept.run_getObj_map hb, keyd.check w false hkl, h1, MapKept.run_setObj_map _ hb, Result.andThen, setBlock]
    · have hf : lookC L c.k = none := by
        cases hf : lookC L c.k with
        | none => rfl
        | some x =>
          obtain ⟨m1, m2⟩ := lookC_mem hf
          obtain ⟨e, m3, m4, _⟩ := E.mem m1
          exact absurd (m4.trans (by rw [m2])) (h2 e m3)
      rw [putC_new hf, Array.toList_push]
      unfold EntL at E ⊢
      rw [List.map_append, List.map_append, E]
      rfl
  · have hj : es[j]? = some e0 := by simpa using h2
    have hlist : (es.modify j (fun e' => { e' with key := keyV c.k, val := celV c })).toList = es.toList.set j { e0 with key := keyV c.k, val := celV c } := by rw [Array.toList_modify, modify_eq_set _ _ _ _ h2]
    refine ⟨.map (es.modify j (fun e' => { e' with key := keyV c.k, val := celV c })) clock, ?_, fun w3 hw3 => ⟨⟨_, _, hw3, stamped_modify hst _ _ (fun _ _ => rfl) (fun e' _ he' => by rw [hj] at he'; cases he'; exact h3.symm), ?_⟩, putC_keys h.ks hc⟩⟩
    · simp [Instr.mapUpdate, run_underlying mapK, MapKept.run_getObj_map hb, keyd.check w false hkl, h1, hj, h3, keyd.stays w hkl, MapKept.run_setObj_map _ hb, Result.andThen, setBlock]
    · obtain ⟨m1, m2, _⟩ := E.get h2
      have hm : L.getD j .z0 ∈ L := by rw [List.getD_eq_getElem?_getD, List.getElem?_eq_getElem m1]; exact List.getElem_mem m1
      have hkn : (L.getD j .z0).k = c.k := keyV_inj (h.ks.2 _ hm) hc (m2.symm.trans h3)
      rw [putC_old h.ks m1 hkn, hlist]
      unfold EntL at E ⊢
      rw [List.map_set, List.map_set, E]

/-- len(m) -/
theorem MC.size {w : World} {b : Nat} {L : List Ce} (h : MC w b L) (t ty : TypeId) (ht : Tryd.prog.underlying t = some (.map 28 53)) : (Builtin.len_ #[t] ty #[.map (some b)]).run Tryd.prog w = .ok (.int .i64 (L.length : Int)) w := by
  obtain ⟨es, clock, hb, _, E⟩ := h.ex
  have := E.len
  simp [Builtin.len_, run_underlying ht, MapKept.run_getObj_map hb, Result.andThen]
  rw [show es.size = L.length by simpa using this]
  rfl

theorem MC.copy {w : World} {b : Nat} {L : List Ce} (h : MC w b L) : ∃ es clock, w.heap[b]? = some (.map es clock) ∧ ∀ W : World, MC (W.alloc (.map es clock)) W.heap.size L := by
  obtain ⟨es, clock, hb, hst, E⟩ := h.ex
  exact ⟨es, clock, hb, fun W => ⟨⟨es, clock, heap_alloc_new _ _, hst, E⟩, h.ks⟩⟩

set_option maxRecDepth 20000 in
set_option maxHeartbeats 2000000 in
theorem clone_map (b : Nat) (es : Array MapEntry) (clock : Nat) (w : World) (hb : w.heap[b]? = some (.map es clock)) :
    Calls Tryd.prog 69 #[.map (some b)] w fun e w' => e = .returned (.map (some w.heap.size)) ∧ w' = w.alloc (.map es clock) := by
  have hq := fun w => run_eql_map_nil_sl (P := Tryd.prog) w 80 _ _ (some b) mapK
  go_enter Tryd.func69, Tryd.ntmps69
  go_wp2_with fail
  rw [run_callFunc_extern Tryd.func77 (by kernel_rfl) (by kernel_rfl) (by kernel_rfl) (e := Extern.MapsClone.clone) (by kernel_rfl), run_maps_clone_sl w 80 hb]
  simp only [Result.andThen]
  rw [Oper.upon_value]
  go_wp2_with fail
  rw [run_typeAssert_map_sl _ 80 _ _ _ _ mapK]
  simp only [Result.andThen]
  rw [Oper.upon_value]
  go_wp2_with fail
  go_ret
  exact ⟨rfl, rfl⟩

end Go.Proofs.YtnbgdkdnlfomeaaDoor.M
