/-
  Own text: append of numbers, told more sharply: in place, or into new memory; changes of the world that leave all blocks but some as they were.
-/
import Derived.Test.YtmfmjoibofadlaaOTries
import Derived.Test.YtmfmjoibofadlaaNMap
import Derived.Deep.DeepAppendRoom
namespace Go.Proofs.Ytmfmjoibofadlaa.M
open Go.ChangeShapes Go.WideShapes Go.ChangeAt Go.RowKit

/-- What an append has done to the world: p grew in place, or p' is new. -/
def Grow (w w' : World) (p : Option Addr) (c : Nat) (p' : Option Addr) (c' : Nat) : Prop :=
  (p' = p ∧ c' = c ∧ w.grownBy w' (p.map Addr.block)) ∨ (w.grownBy w' none ∧ ∀ a, p' = some a → w.heap.size ≤ a.block)

theorem grownBy_refl (w : World) (r : Option Nat) : w.grownBy w r := ⟨rfl, rfl, rfl, Nat.le_refl _, fun _ _ _ => rfl⟩

/-- A slice of numbers whose row, from block B on, is its owner's. -/
def OwS (k : IntKind) (e : TypeId) (w : World) (B : Nat) (p : Option Addr) (n c : Nat) (xs : List Int) : Prop := w.ownsRow B e 1 (.slice p n c) n (xs.map (.int k))

theorem OwS.len {k e w B p n c xs} (h : OwS k e w B p n c xs) : xs.length = n := by
  have := h.1
  simpa using this

theorem OwS.ow {k e w B p n c xs} (h : OwS k e w B p n c xs) : Ow k e w B p n c xs := ⟨h.len, Or.inr h⟩
theorem OwS.rd {k e w B p n c xs} (h : OwS k e w B p n c xs) : Rd k w p n c xs := h.ow.rd
theorem OwS.nil (k : IntKind) (e : TypeId) (w : World) (B : Nat) : OwS k e w B none 0 0 [] := World.ownsRow_nil _ _ _ _
theorem OwS.lt {k e w B p n c xs} (h : OwS k e w B p n c xs) {a : Addr} (hp : p = some a) : B ≤ a.block ∧ a.block < w.heap.size := World.ownsRow.lt h a.block (by rw [hp]; rfl)

theorem OwS.take {k e w B p n c xs} (h : OwS k e w B p n c xs) {j : Nat} (hj : j ≤ n) : OwS k e w B p j c (xs.take j) := by
  have hl := h.len
  refine ⟨by simp; omega, ?_⟩
  rcases h.2 with ⟨hv, rfl⟩ | ⟨g, cap, cur, hv, hg, hh, hc, hm, hs, ht⟩
  · injection hv with e1 e2 e3
    obtain rfl : j = 0 := by omega
    subst e1
    subst e3
    exact Or.inl ⟨rfl, rfl⟩
  · injection hv with e1 e2 e3
    subst e1
    subst e3
    refine Or.inr ⟨g, c, cur, rfl, hg, hh, by omega, hm, hs, ?_⟩
    rw [Nat.mul_one] at ht ⊢
    rw [List.map_take, ← ht, List.take_take, Nat.min_eq_left hj]

/-- A row of another world that is as it was. -/
theorem OwS.same {k e w w' B p n c xs} (h : OwS k e w B p n c xs) (hb : ∀ a, p = some a → w'.heap[a.block]? = w.heap[a.block]?) : OwS k e w' B p n c xs := by
  refine ⟨h.1, ?_⟩
  rcases h.2 with h2 | ⟨g, cap, cur, hv, hg, hh, r⟩
  · exact Or.inl h2
  · refine Or.inr ⟨g, cap, cur, hv, hg, ?_, r⟩
    injection hv with e1 e2 e3
    rw [hb ⟨g, 0, none⟩ e1]
    exact hh

/-- What begins a row, in a world where the row has grown in place. -/
theorem OwS.begin {k e w w' B a n c xs n' c' xs' ln lc ys} (ht : OwS k e w B (some a) n c xs) (ht' : OwS k e w' B (some a) n' c' xs') (hl : OwS k e w B (some a) ln lc ys) (hp : ys <+: xs') (hc : c' = c) : OwS k e w' B (some a) ln lc ys := by
  refine ⟨hl.1, ?_⟩
  rcases hl.2 with ⟨hv, _⟩ | ⟨g, cap, cur, hv, hg, hh, h1, h2, h3, h4⟩
  · cases hv
  rcases ht.2 with ⟨hv2, _⟩ | ⟨g2, cap2, cur2, hv2, hg2, hh2, i1, i2, i3, i4⟩
  · cases hv2
  rcases ht'.2 with ⟨hv3, _⟩ | ⟨g3, cap3, cur3, hv3, hg3, hh3, j1, j2, j3, j4⟩
  · cases hv3
  injection hv with e1 e2 e3
  injection hv2 with e4 e5 e6
  injection hv3 with e7 e8 e9
  rw [e1] at e4 e7
  injection e4 with e4
  injection e7 with e7
  injection e4 with e4
  injection e7 with e7
  subst e4
  subst e7
  subst e3
  subst e6
  subst e9
  rw [hh] at hh2
  injection hh2 with hh2
  injection hh2 with hh2
  subst hh2
  have hlen : ys.length = ln := hl.len
  have hle : ln ≤ n' := by have := hp.length_le; rw [hlen, ht'.len] at this; exact this
  refine Or.inr ⟨g, lc, cur3, by rw [e1], hg, hh3, h1, h2, by omega, ?_⟩
  rw [Nat.mul_one] at j4 ⊢
  obtain ⟨zs, hz⟩ := hp
  have : cur3.toList.take ln = (cur3.toList.take n').take ln := by rw [List.take_take, Nat.min_eq_left hle]
  rw [this, j4, ← hz, List.map_append, List.take_append_of_le_length (by simp; omega), List.take_of_length_le (by simp; omega)]

section
variable {P : Program} (w : World)

theorem run_app2 (k : IntKind) (t ty e : TypeId) (i : TypeInfo) (z : Value) (by_ : Nat) (ht : P.underlying t = some (.slice e)) (hi : P.info? e = some i) (hz : i.zero = some z) (hsize : i.size = 1) (hby : i.bytes = by_) (hzs : z.cells.size = 1)
    {B : Nat} {p q : Option Addr} {n c m d : Nat} {xs ys : List Int} (ho : OwS k e w B p n c xs) (hr : Rd k w q m d ys) (hb : (n + m) * by_ ≤ 140737488355328) (h63 : n + m ≤ maxLen) (hB : B ≤ w.heap.size) :
    ∃ p' c' w', (Builtin.append_ #[t, t] ty #[.slice p n c, .slice q m d]).run P w = .ok (.slice p' (n + m) c') w' ∧ OwS k e w' B p' (n + m) c' (xs ++ ys) ∧ Grow w w' p c p' c' := by
  by_cases hm : m = 0
  · subst hm
    have : ys = [] := List.length_eq_zero_iff.1 hr.len
    subst this
    exact ⟨p, c, w, run_app_zero w t ty e i ht hi p q n c d ho.ow.cap, by simpa using ho, Or.inl ⟨rfl, rfl, grownBy_refl _ _⟩⟩
  · have hm0 : 0 < m := Nat.pos_of_ne_zero hm
    obtain ⟨b, o, rfl, hc⟩ := hr.cells hm0
    have hn : ∀ j u, (ys.map (Value.int k))[j]? = some u → w.cell? ((⟨b, o, none⟩ : Addr).add j) = some u := by
      intro j u hj
      rw [List.getElem?_map] at hj
      have hj' : j < ys.length := by
        rcases Nat.lt_or_ge j ys.length with h | h
        · exact h
        · rw [List.getElem?_eq_none h] at hj; cases hj
      rw [Addr.add_lit, hc j (by rw [← hr.len]; exact hj')]
      rw [List.getElem?_eq_getElem hj'] at hj
      rw [List.getD_eq_getElem?_getD, List.getElem?_eq_getElem hj']
      exact hj
    have hl : (ys.map (Value.int k)).length = m * 1 := by simp [hr.len]
    have fin : ∀ B' v' w', w'.ownsRow B' e 1 v' (n + m) (xs.map (Value.int k) ++ ys.map (Value.int k)) → ∃ p' c', v' = .slice p' (n + m) c' ∧ OwS k e w' B' p' (n + m) c' (xs ++ ys) := by
      intro B' v' w' h
      rw [← List.map_append] at h
      have h' := h
      rcases h.2 with ⟨_, hv⟩ | ⟨g, cap, cur, rfl, r⟩
      · omega
      · exact ⟨_, _, rfl, h'⟩
    have new : ∀ v' w', w'.ownsRow w.heap.size e 1 v' (n + m) (xs.map (Value.int k) ++ ys.map (Value.int k)) → w.grownBy w' none → ∃ p' c', v' = .slice p' (n + m) c' ∧ OwS k e w' B p' (n + m) c' (xs ++ ys) ∧ Grow w w' p c p' c' := by
      intro v' w' h hg
      obtain ⟨p', c', rfl, h4⟩ := fin _ v' w' h
      refine ⟨p', c', rfl, ownsRow_lower h4 hB, Or.inr ⟨hg, fun a ha => ?_⟩⟩
      subst ha
      exact (h.lt a.block rfl).1
    have ho' := ho
    rcases ho.2 with ⟨hv, rfl⟩ | ⟨g, cap, cur, hv, hg, hh, hc2, hm2, hs2, ht2⟩
    · have hxs : xs = [] := List.length_eq_zero_iff.1 ho.len
      subst hxs
      injection hv with e1 e2 e3
      subst e1
      subst e3
      obtain ⟨v', w', h1, h2, h3, _⟩ := run_append_own (P := P) w w.heap.size t ty e i z 1 by_ ht hi hz hsize hby hzs (by decide) _ 0 [] (World.ownsRow_nil _ _ _ _) ⟨b, o, none⟩ m d _ hl hn (oneCells k ys) h63 hb (Nat.le_refl _)
      obtain ⟨p', c', rfl, h4, h5⟩ := new v' w' h2 h3
      exact ⟨p', c', w', h1, h4, h5⟩
    · injection hv with e1 e2 e3
      subst e1
      subst e3
      rcases Nat.lt_or_ge c (n + m) with hlt | hge
      · obtain ⟨v', w', h1, h2, h3⟩ := run_append_arg_grows (P := P) w t ty e i z 1 by_ ht hi hz hsize hby hzs (by decide) ⟨g, 0, none⟩ n c (xs.map (Value.int k)) (by simp [ho.len]) (World.ownsRow.cells ho' rfl) ⟨b, o, none⟩ m d _ hl hn hlt h63 hb
        obtain ⟨p', c', rfl, h4, h5⟩ := new v' w' h2 h3
        exact ⟨p', c', w', h1, h4, h5⟩
      · obtain ⟨w', h1, h2, h3⟩ := run_append_own_spare (P := P) w B t ty e i 1 ht hi hsize g n c _ ho' ⟨b, o, none⟩ m d _ hl hn (oneCells k ys) hge
        obtain ⟨p', c', hp, h4⟩ := fin _ _ w' h2
        injection hp with e4 e5 e6
        subst e4
        subst e6
        exact ⟨_, _, w', h1, h4, Or.inl ⟨rfl, rfl, h3⟩⟩

/-- The same as a law for the walk. -/
theorem wpList_app2 {ops : Array Oper} {rest : List Oper} {o : Oper} {a : Act} {Q : Exit → Act → World → Prop} (hgd : o.guard = none) (s x : Operand) (t : TypeId)
    (hop : o.op = .call { callee := .builtin .append, args := #[s, x], argTypes := #[t, t] })
    (k : IntKind) (e : TypeId) (i : TypeInfo) (z : Value) (by_ : Nat) (ht : P.underlying t = some (.slice e)) (hi : P.info? e = some i) (hz : i.zero = some z) (hsize : i.size = 1) (hby : i.bytes = by_) (hzs : z.cells.size = 1)
    (B : Nat) (p : Option Addr) (n c : Nat) (xs : List Int) (hs : a.eval s = .slice p n c) (ho : OwS k e w B p n c xs)
    (q : Option Addr) (m d : Nat) (ys : List Int) (hx : a.eval x = .slice q m d) (hr : Rd k w q m d ys) (hb : (n + m) * by_ ≤ 140737488355328) (h63 : n + m ≤ maxLen) (hB : B ≤ w.heap.size)
    (h : ∀ p' c' w', OwS k e w' B p' (n + m) c' (xs ++ ys) → Grow w w' p c p' c' → wpList P ops Q rest (a.put o.dst (.slice p' (n + m) c')) w') : wpList P ops Q (o :: rest) a w := by
  refine wpList_plain hgd fun K hK => ?_
  obtain ⟨p', c', w', hrun, h1, h2⟩ := run_app2 (P := P) w k t o.type e i z by_ ht hi hz hsize hby hzs ho hr hb h63 hB
  unfold Oper.wp
  simp [execOp, hop, resolve, invoke, builtin, hs, hx, hrun, Result.andThen]
  exact hK _ _ (h p' c' w' h1 h2)

end

/-- A change of the world that leaves all blocks but some as they were. -/
structure Ch (S : Nat → Prop) (w w' : World) : Prop where
  os : w'.os = w.os
  tape : w'.tape = w.tape
  output : w'.output = w.output
  size : w.heap.size ≤ w'.heap.size
  block : ∀ k, k < w.heap.size → ¬ S k → w'.heap[k]? = w.heap[k]?

theorem Ch.refl (S : Nat → Prop) (w : World) : Ch S w w := ⟨rfl, rfl, rfl, Nat.le_refl _, fun _ _ _ => rfl⟩
theorem Ch.trans {S : Nat → Prop} {a b c : World} (h : Ch S a b) (k : Ch S b c) : Ch S a c :=
  ⟨k.os.trans h.os, k.tape.trans h.tape, k.output.trans h.output, Nat.le_trans h.size k.size, fun j hj hs => (k.block j (Nat.lt_of_lt_of_le hj h.size) hs).trans (h.block j hj hs)⟩
theorem Ch.mono {S T : Nat → Prop} {a b : World} (h : Ch S a b) (hs : ∀ k, k < a.heap.size → S k → T k) : Ch T a b :=
  ⟨h.os, h.tape, h.output, h.size, fun j hj ht => h.block j hj fun e => ht (hs j hj e)⟩
theorem Ch.of_below {a b : World} (h : Below a.heap.size a b) (S : Nat → Prop) : Ch S a b :=
  ⟨h.os, h.tape, h.output, h.size, fun j hj _ => h.block j hj⟩
theorem Ch.below {S : Nat → Prop} {a b : World} {B : Nat} (h : Ch S a b) (hB : B ≤ a.heap.size) (hs : ∀ k, S k → B ≤ k) : Below B a b :=
  ⟨h.os, h.tape, h.output, h.size, fun j hj => h.block j (Nat.lt_of_lt_of_le hj hB) fun e => absurd (hs j e) (Nat.not_le.2 hj)⟩
theorem Ch.cell {S : Nat → Prop} {a b : World} (h : Ch S a b) {p : Addr} (hp : p.block < a.heap.size) (hs : ¬ S p.block) : b.cell? p = a.cell? p := World.cell?_of_block (h.block p.block hp hs)
theorem Ch.frozen {S : Nat → Prop} {a b : World} (h : Ch S a b) {p : Addr} (hp : p.block < a.heap.size) (hs : ¬ S p.block) : b.frozen? p = a.frozen? p := World.frozen?_of_block (h.block p.block hp hs)
theorem Ch.setCell (w : World) (a : Addr) (v : Value) : Ch (fun k => k = a.block) w (w.setCell a v) :=
  have h := (Below.refl 0 w).setCell (p := a) (Nat.zero_le _) v
  ⟨h.os, h.tape, h.output, h.size, fun _ _ hs => Below.heap_setCell _ _ _ _ hs⟩

theorem OwS.ch {S : Nat → Prop} {k e w w' B p n c xs} (h : OwS k e w B p n c xs) (hc : Ch S w w') (hs : ∀ a, p = some a → ¬ S a.block) : OwS k e w' B p n c xs :=
  h.same fun a ha => hc.block _ (h.lt ha).2 (hs a ha)

theorem Rd.ch {S : Nat → Prop} {k : IntKind} {w w' : World} {p : Option Addr} {n c : Nat} {xs : List Int} (h : Rd k w p n c xs) (hc : Ch S w w') (hs : ∀ a, p = some a → ¬ S a.block) : Rd k w' p n c xs := by
  refine ⟨h.len, h.cap, h.nil, fun hn => ?_⟩
  obtain ⟨b, o, hp, hcs⟩ := h.cells hn
  refine ⟨b, o, hp, fun i hi => ?_⟩
  have h1 := hcs i hi
  rw [hc.cell (p := ⟨b, o + i, none⟩) (World.block_lt_of_cell? _ _ h1) (show ¬ S b from hs ⟨b, o, none⟩ hp)]
  exact h1

/-- The same, where nothing is asked of a slice without elements. -/
theorem Rd.ch0 {S : Nat → Prop} {k : IntKind} {w w' : World} {p : Option Addr} {n c : Nat} {xs : List Int} (h : Rd k w p n c xs) (hc : Ch S w w') (hs : ∀ a, p = some a → 0 < n → ¬ S a.block) : Rd k w' p n c xs := by
  by_cases h0 : 0 < n
  · exact h.ch hc fun a ha => hs a ha h0
  · exact ⟨h.len, h.cap, h.nil, fun hn => absurd hn h0⟩

theorem Grow.ch {w w' : World} {p p' : Option Addr} {c c' : Nat} (h : Grow w w' p c p' c') (S : Nat → Prop) (hs : ∀ a, p = some a → S a.block) : Ch S w w' := by
  rcases h with ⟨_, _, h⟩ | ⟨h, _⟩
  · refine ⟨h.os, h.tape, h.output, h.size, fun j hj hn => h.block j hj fun e => hn ?_⟩
    cases p with
    | none => cases e
    | some a => injection e with e; subst e; exact hs a rfl
  · exact ⟨h.os, h.tape, h.output, h.size, fun j hj _ => h.block j hj fun e => by cases e⟩

end Go.Proofs.Ytmfmjoibofadlaa.M
