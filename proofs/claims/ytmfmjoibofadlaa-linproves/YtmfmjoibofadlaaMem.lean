/-
  Own text: what a slice of integers is that can be read, or that the call itself owns; and what append leaves of such slices. No program of this seat is looked at.
-/
import Derived.WalkKit
import Derived.ProofKit
import Derived.ArgAppend
import Derived.Laws.AppendOwnNone
import Derived.Laws.BytesArg
import Derived.Laws.BitsAllLaws
namespace Go.Proofs.Ytmfmjoibofadlaa.M
open Go.RowKit

/-- A slice of integers that can be read: its numbers are xs. -/
structure Rd (k : IntKind) (w : World) (p : Option Addr) (n c : Nat) (xs : List Int) : Prop where
  len : xs.length = n
  cap : n ≤ c
  nil : p = none → c = 0
  cells : 0 < n → ∃ b o, p = some ⟨b, o, none⟩ ∧ ∀ i, i < n → w.cell? ⟨b, o + i, none⟩ = some (.int k (xs.getD i 0))

/-- A slice of integers that the call itself owns (from block B on), or one that is empty and has no room. -/
structure Ow (k : IntKind) (e : TypeId) (w : World) (B : Nat) (p : Option Addr) (n c : Nat) (xs : List Int) : Prop where
  len : xs.length = n
  own : (n = 0 ∧ c = 0) ∨ w.ownsRow B e 1 (.slice p n c) n (xs.map (.int k))

theorem Ow.cap {k e w B p n c xs} (h : Ow k e w B p n c xs) : n ≤ c := by
  rcases h.own with ⟨rfl, rfl⟩ | ⟨_, ⟨hv, rfl⟩ | ⟨g, cap, cur, hv, _, _, hc, _⟩⟩
  · exact Nat.le_refl _
  · simp at hv; omega
  · simp at hv; omega

theorem Ow.none {k e w B n c xs} (h : Ow k e w B Option.none n c xs) : c = 0 := by
  rcases h.own with ⟨rfl, rfl⟩ | ⟨_, ⟨hv, rfl⟩ | ⟨g, cap, cur, hv, _⟩⟩
  · rfl
  · simp at hv; omega
  · simp at hv

theorem ownsRow_lower {w : World} {B B' : Nat} {e : TypeId} {size : Nat} {v : Value} {n : Nat} {xs : List Value} (h : w.ownsRow B e size v n xs) (hB : B' ≤ B) : w.ownsRow B' e size v n xs := by
  refine ⟨h.1, ?_⟩
  rcases h.2 with h2 | ⟨g, cap, cur, hv, hg, r⟩
  · exact Or.inl h2
  · exact Or.inr ⟨g, cap, cur, hv, by omega, r⟩

theorem Ow.lower {k e w B B' p n c xs} (h : Ow k e w B p n c xs) (hB : B' ≤ B) : Ow k e w B' p n c xs :=
  ⟨h.len, h.own.imp id fun h => ownsRow_lower h hB⟩

theorem Ow.rd {k e w B p n c xs} (h : Ow k e w B p n c xs) : Rd k w p n c xs := by
  refine ⟨h.len, h.cap, fun e => ?_, fun hn => ?_⟩
  · subst e; exact h.none
  · rcases h.own with ⟨rfl, rfl⟩ | ho
    · omega
    · have ho' := ho
      rcases ho.2 with ⟨hv, rfl⟩ | ⟨g, cap, cur, hv, hg, hh, hc, hm, hs, ht⟩
      · omega
      · simp at hv
        obtain ⟨rfl, rfl⟩ := hv
        refine ⟨g, 0, rfl, fun i hi => ?_⟩
        have := ho'.cells (g := g) rfl i (.int k (xs.getD i 0)) (by rw [List.getElem?_map, List.getD_eq_getElem?_getD, List.getElem?_eq_getElem (by rw [h.len]; exact hi)]; rfl)
        rw [Addr.add_lit] at this
        exact this

theorem Ow.below {k e w w' B p n c xs} (h : Ow k e w B p n c xs) (hb : Below w.heap.size w w') : Ow k e w' B p n c xs := by
  refine ⟨h.len, ?_⟩
  rcases h.own with ho | ho
  · exact Or.inl ho
  · refine Or.inr ⟨ho.1, ?_⟩
    rcases ho.2 with h2 | ⟨g, cap, cur, hv, hg, hh, r⟩
    · exact Or.inl h2
    · exact Or.inr ⟨g, cap, cur, hv, hg, by rw [hb.block g (Array.getElem?_eq_some_iff.1 hh).1]; exact hh, r⟩

theorem Rd.below {k w w' p n c xs} (h : Rd k w p n c xs) (hb : Below w.heap.size w w') : Rd k w' p n c xs := by
  refine ⟨h.len, h.cap, h.nil, fun hn => ?_⟩
  obtain ⟨b, o, hp, hc⟩ := h.cells hn
  refine ⟨b, o, hp, fun i hi => ?_⟩
  have h1 := hc i hi
  have hlt := World.block_lt_of_cell? _ _ h1
  rw [hb.cell (p := ⟨b, o + i, Option.none⟩) hlt]
  exact h1

theorem Rd.empty (k : IntKind) (w : World) (p : Option Addr) (c : Nat) (h : p = none → c = 0) : Rd k w p 0 c [] :=
  ⟨rfl, Nat.zero_le _, h, fun h => absurd h (Nat.lt_irrefl _)⟩

theorem Ow.empty (k : IntKind) (e : TypeId) (w : World) (B : Nat) (p : Option Addr) : Ow k e w B p 0 0 [] := ⟨rfl, Or.inl ⟨rfl, rfl⟩⟩

theorem oneCells (k : IntKind) (zs : List Int) : ∀ u ∈ zs.map (Value.int k), u.oneCell' = true := ints_oneCell k zs

theorem Ow.of_owns {k e w B n xs} {v : Value} (h : w.ownsRow B e 1 v n (xs.map (.int k))) (hn : xs.length = n) (h0 : 0 < n) : ∃ p c, v = .slice p n c ∧ Ow k e w B p n c xs := by
  have h' := h
  rcases h.2 with ⟨hv, rfl⟩ | ⟨g, cap, cur, rfl, r⟩
  · omega
  · exact ⟨_, _, rfl, hn, Or.inr h'⟩

section
variable {P : Program} (w : World)

/-- append(s, x...) where nothing is appended. -/
theorem run_app_zero (t ty e : TypeId) (i : TypeInfo) (ht : P.underlying t = some (.slice e)) (hi : P.info? e = some i) (p q : Option Addr) (n c d : Nat) (hc : n ≤ c) :
    (Builtin.append_ #[t, t] ty #[.slice p n c, .slice q 0 d]).run P w = .ok (.slice p n c) w := by
  have hf : (Builtin.firstCells i.size 0 (.slice q 0 d)).run P w = .ok #[] w := by
    cases q with
    | none => exact run_firstCells_none w _ _ _ _
    | some b => exact run_firstCells_some (P := P) w i.size 0 b 0 d [] (by simp) (by simp)
  cases p <;> simp [Builtin.append_, run_underlying ht, sizeOf, typeInfo, hi, Builtin.lenOf, hc, hf, storeCells]

/-- append(s, x...): s the call's own (or empty with no room), x whatever can be read. -/
theorem run_app (k : IntKind) (t ty e : TypeId) (i : TypeInfo) (z : Value) (by_ : Nat) (ht : P.underlying t = some (.slice e)) (hi : P.info? e = some i) (hz : i.zero = some z) (hsize : i.size = 1) (hby : i.bytes = by_) (hzs : z.cells.size = 1)
    {B : Nat} {p q : Option Addr} {n c m d : Nat} {xs ys : List Int} (ho : Ow k e w B p n c xs) (hr : Rd k w q m d ys) (hb : (n + m) * by_ ≤ 140737488355328) (h63 : n + m ≤ maxLen) (hB : B ≤ w.heap.size) :
    ∃ p' c' w', (Builtin.append_ #[t, t] ty #[.slice p n c, .slice q m d]).run P w = .ok (.slice p' (n + m) c') w' ∧ Ow k e w' B p' (n + m) c' (xs ++ ys) ∧ Below B w w' := by
  by_cases hm : m = 0
  · subst hm
    have : ys = [] := List.length_eq_zero_iff.1 hr.len
    subst this
    exact ⟨p, c, w, run_app_zero w t ty e i ht hi p q n c d ho.cap, by simpa using ho, Below.refl _ _⟩
  · have hm0 : 0 < m := Nat.pos_of_ne_zero hm
    obtain ⟨b, o, rfl, hc⟩ := hr.cells hm0
    have hn : ∀ j u, (ys.map (Value.int k))[j]? = some u → w.cell? ((⟨b, o, none⟩ : Addr).add j) = some u := by
      intro j u hj
      rw [List.getElem?_map] at hj
      have hj' : j < ys.length := by
        rcases Nat.lt_or_ge j ys.length with h | h
        · exact h
        · rw [List.getElem?_eq_none h] at hj; cases hj
      rw [Addr.add_lit, hc j (by rw [← hr.len]; exact hj')]
      rw [List.getElem?_eq_getElem hj'] at hj
      rw [List.getD_eq_getElem?_getD, List.getElem?_eq_getElem hj']
      exact hj
    have hl : (ys.map (Value.int k)).length = m * 1 := by simp [hr.len]
    have fin : ∀ v' w', w'.ownsRow B e 1 v' (n + m) (xs.map (Value.int k) ++ ys.map (Value.int k)) → ∃ p' c', v' = .slice p' (n + m) c' ∧ Ow k e w' B p' (n + m) c' (xs ++ ys) := by
      intro v' w' h
      rw [← List.map_append] at h
      exact Ow.of_owns h (by rw [List.length_append, ho.len, hr.len]) (by omega)
    have own_case : w.ownsRow B e 1 (.slice p n c) n (xs.map (.int k)) → ∃ p' c' w', (Builtin.append_ #[t, t] ty #[.slice p n c, .slice (some ⟨b, o, none⟩) m d]).run P w = .ok (.slice p' (n + m) c') w' ∧ Ow k e w' B p' (n + m) c' (xs ++ ys) ∧ Below B w w' := by
      intro hown
      obtain ⟨v', w', h1, h2, h3, _⟩ := run_append_own (P := P) w B t ty e i z 1 by_ ht hi hz hsize hby hzs (by decide) _ n _ hown ⟨b, o, none⟩ m d _ hl hn (oneCells k ys) h63 hb hB
      obtain ⟨p', c', rfl, h4⟩ := fin v' w' h2
      exact ⟨p', c', w', h1, h4, (Below.refl _ _).grown h3 hB fun g hg => (hown.lt g hg).1⟩
    rcases ho.own with ⟨rfl, rfl⟩ | hown
    · have hxs : xs = [] := List.length_eq_zero_iff.1 ho.len
      subst hxs
      cases p with
      | none => exact own_case (World.ownsRow_nil _ _ _ _)
      | some pa =>
        obtain ⟨v', w', h1, h2, h3⟩ := run_append_arg_grows (P := P) w t ty e i z 1 by_ ht hi hz hsize hby hzs (by decide) pa 0 0 [] (by simp) (by simp) ⟨b, o, none⟩ m d _ hl hn (by omega) h63 hb
        obtain ⟨p', c', rfl, h4⟩ := fin v' w' (by simpa using ownsRow_lower h2 hB)
        exact ⟨p', c', w', h1, h4, (Below.refl _ _).grown h3 hB fun g hg => by cases hg⟩
    · exact own_case hown

/-- The same as a law for the walk. -/
theorem wpList_app {ops : Array Oper} {rest : List Oper} {o : Oper} {a : Act} {Q : Exit → Act → World → Prop} (hgd : o.guard = none) (s x : Operand) (t : TypeId)
    (hop : o.op = .call { callee := .builtin .append, args := #[s, x], argTypes := #[t, t] })
    (k : IntKind) (e : TypeId) (i : TypeInfo) (z : Value) (by_ : Nat) (ht : P.underlying t = some (.slice e)) (hi : P.info? e = some i) (hz : i.zero = some z) (hsize : i.size = 1) (hby : i.bytes = by_) (hzs : z.cells.size = 1)
    (B : Nat) (p : Option Addr) (n c : Nat) (xs : List Int) (hs : a.eval s = .slice p n c) (ho : Ow k e w B p n c xs)
    (q : Option Addr) (m d : Nat) (ys : List Int) (hx : a.eval x = .slice q m d) (hr : Rd k w q m d ys) (hb : (n + m) * by_ ≤ 140737488355328) (h63 : n + m ≤ maxLen) (hB : B ≤ w.heap.size)
    (h : ∀ p' c' w', Ow k e w' B p' (n + m) c' (xs ++ ys) → Below B w w' → wpList P ops Q rest (a.put o.dst (.slice p' (n + m) c')) w') : wpList P ops Q (o :: rest) a w := by
  refine wpList_plain hgd fun K hK => ?_
  obtain ⟨p', c', w', hrun, h1, h2⟩ := run_app (P := P) w k t o.type e i z by_ ht hi hz hsize hby hzs ho hr hb h63 hB
  unfold Oper.wp
  simp [execOp, hop, resolve, invoke, builtin, hs, hx, hrun, Result.andThen]
  exact hK _ _ (h p' c' w' h1 h2)

end
end Go.Proofs.Ytmfmjoibofadlaa.M
