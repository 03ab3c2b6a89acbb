/-
  Own text: slices of values of one cell each that can be read, or that the call itself owns; slices of bytes side by side.
-/
import Derived.Test.YtpjhadaiodnnaaaMem
namespace Go.Proofs.Ytpjhadaiodnnaaa.M
open Go.RowKit

/-- A slice of values of one cell each that can be read. -/
structure RdV (w : World) (p : Option Addr) (n c : Nat) (vs : List Value) : Prop where
  len : vs.length = n
  cap : n ≤ c
  nil : p = none → c = 0
  cells : 0 < n → ∃ b o, p = some ⟨b, o, none⟩ ∧ ∀ i, i < n → w.cell? ⟨b, o + i, none⟩ = some (vs.getD i undef)

/-- One that the call itself owns (from block B on), or one that is empty and has no room. -/
structure OwV (e : TypeId) (w : World) (B : Nat) (p : Option Addr) (n c : Nat) (vs : List Value) : Prop where
  len : vs.length = n
  own : (n = 0 ∧ c = 0) ∨ w.ownsRow B e 1 (.slice p n c) n vs

theorem OwV.cap {e w B p n c vs} (h : OwV e w B p n c vs) : n ≤ c := by
  rcases h.own with ⟨rfl, rfl⟩ | ⟨_, ⟨hv, rfl⟩ | ⟨g, cap, cur, hv, _, _, hc, _⟩⟩
  · exact Nat.le_refl _
  · simp at hv; omega
  · simp at hv; omega

theorem OwV.none {e w B n c vs} (h : OwV e w B Option.none n c vs) : c = 0 := by
  rcases h.own with ⟨rfl, rfl⟩ | ⟨_, ⟨hv, rfl⟩ | ⟨g, cap, cur, hv, _⟩⟩
  · rfl
  · simp at hv; omega
  · simp at hv

theorem OwV.rd {e w B p n c vs} (h : OwV e w B p n c vs) : RdV w p n c vs := by
  refine ⟨h.len, h.cap, fun e => ?_, fun hn => ?_⟩
  · subst e; exact h.none
  · rcases h.own with ⟨rfl, rfl⟩ | ho
    · omega
    · have ho' := ho
      rcases ho.2 with ⟨hv, rfl⟩ | ⟨g, cap, cur, hv, hg, hh, hc, hm, hs, ht⟩
      · omega
      · simp at hv
        obtain ⟨rfl, rfl⟩ := hv
        refine ⟨g, 0, rfl, fun i hi => ?_⟩
        have := ho'.cells (g := g) rfl i (vs.getD i undef) (by rw [List.getD_eq_getElem?_getD, List.getElem?_eq_getElem (by rw [h.len]; exact hi)]; rfl)
        rw [Addr.add_lit] at this
        exact this

theorem OwV.below {e w w' B p n c vs} (h : OwV e w B p n c vs) (hb : Below w.heap.size w w') : OwV e w' B p n c vs := by
  refine ⟨h.len, ?_⟩
  rcases h.own with ho | ho
  · exact Or.inl ho
  · refine Or.inr ⟨ho.1, ?_⟩
    rcases ho.2 with h2 | ⟨g, cap, cur, hv, hg, hh, r⟩
    · exact Or.inl h2
    · exact Or.inr ⟨g, cap, cur, hv, hg, by rw [hb.block g (Array.getElem?_eq_some_iff.1 hh).1]; exact hh, r⟩

theorem RdV.below {w w' p n c vs} (h : RdV w p n c vs) (hb : Below w.heap.size w w') : RdV w' p n c vs := by
  refine ⟨h.len, h.cap, h.nil, fun hn => ?_⟩
  obtain ⟨b, o, hp, hc⟩ := h.cells hn
  refine ⟨b, o, hp, fun i hi => ?_⟩
  have h1 := hc i hi
  have hlt := World.block_lt_of_cell? _ _ h1
  rw [hb.cell (p := ⟨b, o + i, Option.none⟩) hlt]
  exact h1

theorem OwV.empty (e : TypeId) (w : World) (B : Nat) (p : Option Addr) : OwV e w B p 0 0 [] := ⟨rfl, Or.inl ⟨rfl, rfl⟩⟩

theorem OwV.of_owns {e w B n vs} {v : Value} (h : w.ownsRow B e 1 v n vs) (hn : vs.length = n) (h0 : 0 < n) : ∃ p c, v = .slice p n c ∧ OwV e w B p n c vs := by
  have h' := h
  rcases h.2 with ⟨hv, rfl⟩ | ⟨g, cap, cur, rfl, r⟩
  · omega
  · exact ⟨_, _, rfl, hn, Or.inr h'⟩

/-- Every block that is no row of that type stands. -/
def Kept (e : TypeId) (w w' : World) : Prop := ∀ k, k < w.heap.size → (∀ cs f, w.heap[k]? ≠ some (.cells cs e f)) → w'.heap[k]? = w.heap[k]?

theorem kept_of {e : TypeId} {w w' : World} {row : Option Nat} (h : w.grownBy w' row) (hr : ∀ g, row = some g → ∃ cs f, w.heap[g]? = some (.cells cs e f)) : Kept e w w' := by
  intro k hk hn
  refine h.block k hk fun e' => ?_
  obtain ⟨cs, f, hc⟩ := hr k e'.symm
  exact hn cs f hc

theorem Ow.keptT {k : IntKind} {u e : TypeId} {w w' : World} {B : Nat} {p : Option Addr} {n c : Nat} {xs : List Int} (h : Ow k u w B p n c xs) (hk : Kept e w w') (hne : u ≠ e) : Ow k u w' B p n c xs := by
  refine ⟨h.len, ?_⟩
  rcases h.own with ho | ho
  · exact Or.inl ho
  · refine Or.inr ⟨ho.1, ?_⟩
    rcases ho.2 with h2 | ⟨g, cap, cur, hv, hg, hh, r⟩
    · exact Or.inl h2
    · refine Or.inr ⟨g, cap, cur, hv, hg, ?_, r⟩
      rw [hk g (Array.getElem?_eq_some_iff.1 hh).1 (fun cs f e' => ?_)]
      · exact hh
      · rw [hh] at e'
        injection e' with e'
        injection e' with _ e' _
        exact hne e'

section
variable {P : Program} (w : World)

/-- append(s, x): s the call's own (or empty with no room), x one value. -/
theorem run_appV (t ty e : TypeId) (i : TypeInfo) (z : Value) (by_ : Nat) (ht : P.underlying t = some (.slice e)) (hi : P.info? e = some i) (hz : i.zero = some z) (hsize : i.size = 1) (hby : i.bytes = by_) (hzs : z.cells.size = 1)
    {B : Nat} {p : Option Addr} {n c : Nat} {vs : List Value} {x : Value} {b o d : Nat} (ho : OwV e w B p n c vs) (hx : w.cell? ⟨b, o, none⟩ = some x) (h1 : x.oneCell' = true) (hb : (n + 1) * by_ ≤ 140737488355328) (h63 : n + 1 ≤ maxLen) (hB : B ≤ w.heap.size) :
    ∃ p' c' w', (Builtin.append_ #[t, t] ty #[.slice p n c, .slice (some ⟨b, o, none⟩) 1 d]).run P w = .ok (.slice p' (n + 1) c') w' ∧ OwV e w' B p' (n + 1) c' (vs ++ [x]) ∧ Below B w w' ∧ Kept e w w' := by
  have hn : ∀ j u, [x][j]? = some u → w.cell? ((⟨b, o, none⟩ : Addr).add j) = some u := by
    intro j u hj
    rw [Addr.add_lit]
    match j, hj with
    | 0, hj => cases hj; exact hx
    | j + 1, hj => cases hj
  have hl : [x].length = 1 * 1 := rfl
  have h1' : ∀ u ∈ [x], u.oneCell' = true := fun u hu => by rw [List.mem_singleton] at hu; rw [hu]; exact h1
  have fin : ∀ v' w', w'.ownsRow B e 1 v' (n + 1) (vs ++ [x]) → ∃ p' c', v' = .slice p' (n + 1) c' ∧ OwV e w' B p' (n + 1) c' (vs ++ [x]) := by
    intro v' w' h
    exact OwV.of_owns h (by rw [List.length_append, ho.len]; rfl) (by omega)
  have own_case : w.ownsRow B e 1 (.slice p n c) n vs → ∃ p' c' w', (Builtin.append_ #[t, t] ty #[.slice p n c, .slice (some ⟨b, o, none⟩) 1 d]).run P w = .ok (.slice p' (n + 1) c') w' ∧ OwV e w' B p' (n + 1) c' (vs ++ [x]) ∧ Below B w w' ∧ Kept e w w' := by
    intro hown
    obtain ⟨v', w', h1, h2, h3, _⟩ := run_append_own (P := P) w B t ty e i z 1 by_ ht hi hz hsize hby hzs (by decide) _ n _ hown ⟨b, o, none⟩ 1 d _ hl hn h1' h63 hb hB
    obtain ⟨p', c', rfl, h4⟩ := fin v' w' h2
    refine ⟨p', c', w', h1, h4, (Below.refl _ _).grown h3 hB fun g hg => (hown.lt g hg).1, kept_of h3 fun g hg => ?_⟩
    rcases hown.2 with ⟨hv, _⟩ | ⟨g', cap, cur, hv, _, hh, _⟩
    · rw [hv] at hg; cases hg
    · rw [hv] at hg
      cases hg
      exact ⟨cur, _, hh⟩
  rcases ho.own with ⟨rfl, rfl⟩ | hown
  · have hvs : vs = [] := List.length_eq_zero_iff.1 ho.len
    subst hvs
    cases p with
    | none => exact own_case (World.ownsRow_nil _ _ _ _)
    | some pa =>
      obtain ⟨v', w', h1, h2, h3⟩ := run_append_arg_grows (P := P) w t ty e i z 1 by_ ht hi hz hsize hby hzs (by decide) pa 0 0 [] (by simp) (by simp) ⟨b, o, none⟩ 1 d _ hl hn (by omega) h63 hb
      obtain ⟨p', c', rfl, h4⟩ := fin v' w' (by simpa using ownsRow_lower h2 hB)
      exact ⟨p', c', w', h1, h4, (Below.refl _ _).grown h3 hB (fun g hg => by cases hg), kept_of h3 (fun g hg => by cases hg)⟩
  · exact own_case hown

/-- The same as a law for the walk. -/
theorem wpList_appV {ops : Array Oper} {rest : List Oper} {o : Oper} {a : Act} {Q : Exit → Act → World → Prop} (hgd : o.guard = none) (s x : Operand) (t : TypeId)
    (hop : o.op = .call { callee := .builtin .append, args := #[s, x], argTypes := #[t, t] })
    (e : TypeId) (i : TypeInfo) (z : Value) (by_ : Nat) (ht : P.underlying t = some (.slice e)) (hi : P.info? e = some i) (hz : i.zero = some z) (hsize : i.size = 1) (hby : i.bytes = by_) (hzs : z.cells.size = 1)
    (B : Nat) (p : Option Addr) (n c : Nat) (vs : List Value) (hs : a.eval s = .slice p n c) (ho : OwV e w B p n c vs)
    (b f d : Nat) (u : Value) (hx : a.eval x = .slice (some ⟨b, f, none⟩) 1 d) (hr : w.cell? ⟨b, f, none⟩ = some u) (h1 : u.oneCell' = true) (hb : (n + 1) * by_ ≤ 140737488355328) (h63 : n + 1 ≤ maxLen) (hB : B ≤ w.heap.size)
    (h : ∀ p' c' w', OwV e w' B p' (n + 1) c' (vs ++ [u]) → Below B w w' → Kept e w w' → wpList P ops Q rest (a.put o.dst (.slice p' (n + 1) c')) w') : wpList P ops Q (o :: rest) a w := by
  refine wpList_plain hgd fun K hK => ?_
  obtain ⟨p', c', w', hrun, h2, h3, h4⟩ := run_appV (P := P) (d := d) w t o.type e i z by_ ht hi hz hsize hby hzs ho hr h1 hb h63 hB
  unfold Oper.wp
  simp [execOp, hop, resolve, invoke, builtin, hs, hx, hrun, Result.andThen]
  exact hK _ _ (h p' c' w' h2 h3 h4)

end

theorem OwV.keptT {u e : TypeId} {w w' : World} {B : Nat} {p : Option Addr} {n c : Nat} {vs : List Value} (h : OwV u w B p n c vs) (hk : Kept e w w') (hne : u ≠ e) : OwV u w' B p n c vs := by
  refine ⟨h.len, ?_⟩
  rcases h.own with ho | ho
  · exact Or.inl ho
  · refine Or.inr ⟨ho.1, ?_⟩
    rcases ho.2 with h2 | ⟨g, cap, cur, hv, hg, hh, r⟩
    · exact Or.inl h2
    · refine Or.inr ⟨g, cap, cur, hv, hg, ?_, r⟩
      rw [hk g (Array.getElem?_eq_some_iff.1 hh).1 (fun cs f e' => ?_)]
      · exact hh
      · rw [hh] at e'
        injection e' with e'
        injection e' with _ e' _
        exact hne e'

section
variable {P : Program} (w : World)

/-- append(s, x...) of integers, and what it leaves of others. -/
theorem run_appK (k : IntKind) (t ty e : TypeId) (i : TypeInfo) (z : Value) (by_ : Nat) (ht : P.underlying t = some (.slice e)) (hi : P.info? e = some i) (hz : i.zero = some z) (hsize : i.size = 1) (hby : i.bytes = by_) (hzs : z.cells.size = 1)
    {B : Nat} {p q : Option Addr} {n c m d : Nat} {xs ys : List Int} (ho : Ow k e w B p n c xs) (hr : Rd k w q m d ys) (hb : (n + m) * by_ ≤ 140737488355328) (h63 : n + m ≤ maxLen) (hB : B ≤ w.heap.size) :
    ∃ p' c' w', (Builtin.append_ #[t, t] ty #[.slice p n c, .slice q m d]).run P w = .ok (.slice p' (n + m) c') w' ∧ Ow k e w' B p' (n + m) c' (xs ++ ys) ∧ Below B w w' ∧ Kept e w w' := by
  by_cases hm : m = 0
  · subst hm
    have : ys = [] := List.length_eq_zero_iff.1 hr.len
    subst this
    exact ⟨p, c, w, run_app_zero w t ty e i ht hi p q n c d ho.cap, by simpa using ho, Below.refl _ _, fun _ _ _ => rfl⟩
  · have hm0 : 0 < m := Nat.pos_of_ne_zero hm
    obtain ⟨b, o, rfl, hc⟩ := hr.cells hm0
    have hn : ∀ j u, (ys.map (Value.int k))[j]? = some u → w.cell? ((⟨b, o, none⟩ : Addr).add j) = some u := by
      intro j u hj
      rw [List.getElem?_map] at hj
      have hj' : j < ys.length := by
        rcases Nat.lt_or_ge j ys.length with h | h
        · exact h
        · rw [List.getElem?_eq_none h] at hj; cases hj
      rw [Addr.add_lit, hc j (by rw [← hr.len]; exact hj')]
      rw [List.getElem?_eq_getElem hj'] at hj
      rw [List.getD_eq_getElem?_getD, List.getElem?_eq_getElem hj']
      exact hj
    have hl : (ys.map (Value.int k)).length = m * 1 := by simp [hr.len]
    have fin : ∀ v' w', w'.ownsRow B e 1 v' (n + m) (xs.map (Value.int k) ++ ys.map (Value.int k)) → ∃ p' c', v' = .slice p' (n + m) c' ∧ Ow k e w' B p' (n + m) c' (xs ++ ys) := by
      intro v' w' h
      rw [← List.map_append] at h
      exact Ow.of_owns h (by rw [List.length_append, ho.len, hr.len]) (by omega)
    have own_case : w.ownsRow B e 1 (.slice p n c) n (xs.map (.int k)) → ∃ p' c' w', (Builtin.append_ #[t, t] ty #[.slice p n c, .slice (some ⟨b, o, none⟩) m d]).run P w = .ok (.slice p' (n + m) c') w' ∧ Ow k e w' B p' (n + m) c' (xs ++ ys) ∧ Below B w w' ∧ Kept e w w' := by
      intro hown
      obtain ⟨v', w', h1, h2, h3, _⟩ := run_append_own (P := P) w B t ty e i z 1 by_ ht hi hz hsize hby hzs (by decide) _ n _ hown ⟨b, o, none⟩ m d _ hl hn (oneCells k ys) h63 hb hB
      obtain ⟨p', c', rfl, h4⟩ := fin v' w' h2
      refine ⟨p', c', w', h1, h4, (Below.refl _ _).grown h3 hB fun g hg => (hown.lt g hg).1, kept_of h3 fun g hg => ?_⟩
      rcases hown.2 with ⟨hv, _⟩ | ⟨g', cap, cur, hv, _, hh, _⟩
      · rw [hv] at hg; cases hg
      · rw [hv] at hg
        cases hg
        exact ⟨cur, _, hh⟩
    rcases ho.own with ⟨rfl, rfl⟩ | hown
    · have hxs : xs = [] := List.length_eq_zero_iff.1 ho.len
      subst hxs
      cases p with
      | none => exact own_case (World.ownsRow_nil _ _ _ _)
      | some pa =>
        obtain ⟨v', w', h1, h2, h3⟩ := run_append_arg_grows (P := P) w t ty e i z 1 by_ ht hi hz hsize hby hzs (by decide) pa 0 0 [] (by simp) (by simp) ⟨b, o, none⟩ m d _ hl hn (by omega) h63 hb
        obtain ⟨p', c', rfl, h4⟩ := fin v' w' (by simpa using ownsRow_lower h2 hB)
        exact ⟨p', c', w', h1, h4, (Below.refl _ _).grown h3 hB (fun g hg => by cases hg), kept_of h3 (fun g hg => by cases hg)⟩
    · exact own_case hown

theorem wpList_appK {ops : Array Oper} {rest : List Oper} {o : Oper} {a : Act} {Q : Exit → Act → World → Prop} (hgd : o.guard = none) (s x : Operand) (t : TypeId)
    (hop : o.op = .call { callee := .builtin .append, args := #[s, x], argTypes := #[t, t] })
    (k : IntKind) (e : TypeId) (i : TypeInfo) (z : Value) (by_ : Nat) (ht : P.underlying t = some (.slice e)) (hi : P.info? e = some i) (hz : i.zero = some z) (hsize : i.size = 1) (hby : i.bytes = by_) (hzs : z.cells.size = 1)
    (B : Nat) (p : Option Addr) (n c : Nat) (xs : List Int) (hs : a.eval s = .slice p n c) (ho : Ow k e w B p n c xs)
    (q : Option Addr) (m d : Nat) (ys : List Int) (hx : a.eval x = .slice q m d) (hr : Rd k w q m d ys) (hb : (n + m) * by_ ≤ 140737488355328) (h63 : n + m ≤ maxLen) (hB : B ≤ w.heap.size)
    (h : ∀ p' c' w', Ow k e w' B p' (n + m) c' (xs ++ ys) → Below B w w' → Kept e w w' → wpList P ops Q rest (a.put o.dst (.slice p' (n + m) c')) w') : wpList P ops Q (o :: rest) a w := by
  refine wpList_plain hgd fun K hK => ?_
  obtain ⟨p', c', w', hrun, h1, h2, h3⟩ := run_appK (P := P) w k t o.type e i z by_ ht hi hz hsize hby hzs ho hr hb h63 hB
  unfold Oper.wp
  simp [execOp, hop, resolve, invoke, builtin, hs, hx, hrun, Result.andThen]
  exact hK _ _ (h p' c' w' h1 h2 h3)

end

/-- Slices of bytes side by side: each can be read. -/
def Sls (w : World) (vs : List Value) (xss : List (List Int)) : Prop := vs.length = xss.length ∧ ∀ i, i < vs.length → ∃ q m d, vs.getD i undef = .slice q m d ∧ Rd .u8 w q m d (xss.getD i [])

theorem Sls.nil (w : World) : Sls w [] [] := ⟨rfl, fun _ h => absurd h (Nat.not_lt_zero _)⟩

theorem Sls.below {w w' : World} {vs : List Value} {xss : List (List Int)} (h : Sls w vs xss) (hb : Below w.heap.size w w') : Sls w' vs xss :=
  ⟨h.1, fun i hi => by obtain ⟨q, m, d, e, r⟩ := h.2 i hi; exact ⟨q, m, d, e, r.below hb⟩⟩

theorem Sls.snoc {w : World} {vs : List Value} {xss : List (List Int)} (h : Sls w vs xss) {q : Option Addr} {m d : Nat} {xs : List Int} (hr : Rd .u8 w q m d xs) : Sls w (vs ++ [.slice q m d]) (xss ++ [xs]) := by
  refine ⟨by rw [List.length_append, List.length_append, h.1]; rfl, fun i hi => ?_⟩
  rw [List.length_append, List.length_singleton] at hi
  by_cases hlt : i < vs.length
  · obtain ⟨q', m', d', e, r⟩ := h.2 i hlt
    refine ⟨q', m', d', ?_, ?_⟩
    · rw [List.getD_eq_getElem?_getD, List.getElem?_append_left hlt, ← List.getD_eq_getElem?_getD]; exact e
    · rw [List.getD_eq_getElem?_getD, List.getElem?_append_left (by rw [← h.1]; exact hlt), ← List.getD_eq_getElem?_getD]; exact r
  · obtain rfl : i = vs.length := by omega
    refine ⟨q, m, d, ?_, ?_⟩
    · rw [List.getD_eq_getElem?_getD, List.getElem?_append_right (Nat.le_refl _), Nat.sub_self]; rfl
    · rw [List.getD_eq_getElem?_getD, h.1, List.getElem?_append_right (Nat.le_refl _), Nat.sub_self]; exact hr

/-- Slices of bytes side by side that the call itself has made. -/
def Slo (u : TypeId) (w : World) (B : Nat) (vs : List Value) (xss : List (List Int)) : Prop := vs.length = xss.length ∧ ∀ i, i < vs.length → ∃ q m d, vs.getD i undef = .slice q m d ∧ Ow .u8 u w B q m d (xss.getD i [])

theorem Slo.nil (u : TypeId) (w : World) (B : Nat) : Slo u w B [] [] := ⟨rfl, fun _ h => absurd h (Nat.not_lt_zero _)⟩

theorem Slo.sls {u : TypeId} {w : World} {B : Nat} {vs : List Value} {xss : List (List Int)} (h : Slo u w B vs xss) : Sls w vs xss :=
  ⟨h.1, fun i hi => by obtain ⟨q, m, d, e, r⟩ := h.2 i hi; exact ⟨q, m, d, e, r.rd⟩⟩

theorem Slo.below {u : TypeId} {w w' : World} {B : Nat} {vs : List Value} {xss : List (List Int)} (h : Slo u w B vs xss) (hb : Below w.heap.size w w') : Slo u w' B vs xss :=
  ⟨h.1, fun i hi => by obtain ⟨q, m, d, e, r⟩ := h.2 i hi; exact ⟨q, m, d, e, r.below hb⟩⟩

theorem Slo.kept {u e : TypeId} {w w' : World} {B : Nat} {vs : List Value} {xss : List (List Int)} (h : Slo u w B vs xss) (hk : Kept e w w') (hne : u ≠ e) : Slo u w' B vs xss :=
  ⟨h.1, fun i hi => by obtain ⟨q, m, d, e, r⟩ := h.2 i hi; exact ⟨q, m, d, e, r.keptT hk hne⟩⟩

theorem Slo.snoc {u : TypeId} {w : World} {B : Nat} {vs : List Value} {xss : List (List Int)} (h : Slo u w B vs xss) {q : Option Addr} {m d : Nat} {xs : List Int} (hr : Ow .u8 u w B q m d xs) : Slo u w B (vs ++ [.slice q m d]) (xss ++ [xs]) := by
  refine ⟨by rw [List.length_append, List.length_append, h.1]; rfl, fun i hi => ?_⟩
  rw [List.length_append, List.length_singleton] at hi
  by_cases hlt : i < vs.length
  · obtain ⟨q', m', d', e, r⟩ := h.2 i hlt
    refine ⟨q', m', d', ?_, ?_⟩
    · rw [List.getD_eq_getElem?_getD, List.getElem?_append_left hlt, ← List.getD_eq_getElem?_getD]; exact e
    · rw [List.getD_eq_getElem?_getD, List.getElem?_append_left (by rw [← h.1]; exact hlt), ← List.getD_eq_getElem?_getD]; exact r
  · obtain rfl : i = vs.length := by omega
    refine ⟨q, m, d, ?_, ?_⟩
    · rw [List.getD_eq_getElem?_getD, List.getElem?_append_right (Nat.le_refl _), Nat.sub_self]; rfl
    · rw [List.getD_eq_getElem?_getD, h.1, List.getElem?_append_right (Nat.le_refl _), Nat.sub_self]; exact hr

end Go.Proofs.Ytpjhadaiodnnaaa.M
