/-
  Own text: append of one value to a row of its owner: where the new row lies.
-/
import Derived.Test.YtpjhadaiodnnaaaTSync
namespace Go.Proofs.Ytpjhadaiodnnaaa.M
open Go.ChangeShapes Go.WideShapes Go.ChangeAt Go.RowKit
set_option linter.unusedSimpArgs false

section
variable {P : Program} (w : World)

/-- append(s, x): s the call's own (or empty with no room), x one value: the row grows in its place, or it is a new one. -/
theorem run_appG (t ty e : TypeId) (i : TypeInfo) (z : Value) (by_ : Nat) (ht : P.underlying t = some (.slice e)) (hi : P.info? e = some i) (hz : i.zero = some z) (hsize : i.size = 1) (hby : i.bytes = by_) (hzs : z.cells.size = 1)
    {B : Nat} {p : Option Addr} {n c : Nat} {vs : List Value} {x : Value} {b o d : Nat} (ho : OwV e w B p n c vs) (hx : w.cell? ⟨b, o, none⟩ = some x) (h1 : x.oneCell' = true) (hb : (n + 1) * by_ ≤ 140737488355328) (h63 : n + 1 ≤ maxLen) (hB : B ≤ w.heap.size) :
    ∃ p' c' w', (Builtin.append_ #[t, t] ty #[.slice p n c, .slice (some ⟨b, o, none⟩) 1 d]).run P w = .ok (.slice p' (n + 1) c') w' ∧ OwV e w' B p' (n + 1) c' (vs ++ [x]) ∧ (Grow w w' p c p' c' ∧ (c = 0 → w.grownBy w' none)) ∧ Kept e w w' := by
  have hn : ∀ j u, [x][j]? = some u → w.cell? ((⟨b, o, none⟩ : Addr).add j) = some u := by
    intro j u hj
    rw [Addr.add_lit]
    match j, hj with
    | 0, hj => cases hj; exact hx
    | j + 1, hj => cases hj
  have hl : [x].length = 1 * 1 := rfl
  have h1' : ∀ u ∈ [x], u.oneCell' = true := fun u hu => by rw [List.mem_singleton] at hu; rw [hu]; exact h1
  have fin : ∀ B' v' w', w'.ownsRow B' e 1 v' (n + 1) (vs ++ [x]) → ∃ p' c', v' = .slice p' (n + 1) c' ∧ OwV e w' B' p' (n + 1) c' (vs ++ [x]) := by
    intro B' v' w' h
    exact OwV.of_owns h (by rw [List.length_append, ho.len]; rfl) (by omega)
  have new : ∀ v' w', w'.ownsRow w.heap.size e 1 v' (n + 1) (vs ++ [x]) → w.grownBy w' none → ∃ p' c', v' = .slice p' (n + 1) c' ∧ OwV e w' B p' (n + 1) c' (vs ++ [x]) ∧ (Grow w w' p c p' c' ∧ (c = 0 → w.grownBy w' none)) ∧ Kept e w w' := by
    intro v' w' h hg
    obtain ⟨p', c', rfl, h4⟩ := fin _ v' w' h
    refine ⟨p', c', rfl, h4.lowerB hB, ⟨Or.inr ⟨hg, fun a ha => ?_⟩, fun _ => hg⟩, kept_of hg (fun g hg => by cases hg)⟩
    subst ha
    exact (h.lt a.block rfl).1
  have none_case : p = Option.none → n = 0 → c = 0 → vs = [] → ∃ p' c' w', (Builtin.append_ #[t, t] ty #[.slice p n c, .slice (some ⟨b, o, none⟩) 1 d]).run P w = .ok (.slice p' (n + 1) c') w' ∧ OwV e w' B p' (n + 1) c' (vs ++ [x]) ∧ (Grow w w' p c p' c' ∧ (c = 0 → w.grownBy w' none)) ∧ Kept e w w' := by
    intro e1 e2 e3 e4
    subst e1
    subst e2
    subst e3
    subst e4
    obtain ⟨v', w', h1, h2, h3, _⟩ := run_append_own (P := P) w w.heap.size t ty e i z 1 by_ ht hi hz hsize hby hzs (by decide) _ 0 [] (World.ownsRow_nil _ _ _ _) ⟨b, o, none⟩ 1 d _ hl hn h1' h63 hb (Nat.le_refl _)
    obtain ⟨p', c', rfl, h4, h5⟩ := new v' w' h2 h3
    exact ⟨p', c', w', h1, h4, h5⟩
  rcases ho.own with ⟨e1, e2⟩ | hown
  · have hvs : vs = [] := List.length_eq_zero_iff.1 (ho.len.trans e1)
    cases p with
    | none => exact none_case rfl e1 e2 hvs
    | some pa =>
      subst e1
      subst e2
      subst hvs
      obtain ⟨v', w', h1, h2, h3⟩ := run_append_arg_grows (P := P) w t ty e i z 1 by_ ht hi hz hsize hby hzs (by decide) pa 0 0 [] (by simp) (by simp) ⟨b, o, none⟩ 1 d _ hl hn (by omega) h63 hb
      obtain ⟨p', c', rfl, h4, h5⟩ := new v' w' h2 h3
      exact ⟨p', c', w', h1, h4, h5⟩
  · have ho' := hown
    rcases hown.2 with ⟨hv, e0⟩ | ⟨g, cap, cur, hv, hg, hh, hc2, hm2, hs2, ht2⟩
    · injection hv with e1 e2 e3
      exact none_case e1 e0 e3 (List.length_eq_zero_iff.1 (ho.len.trans e0))
    · injection hv with e1 e2 e3
      subst e1
      subst e3
      rcases Nat.lt_or_ge c (n + 1) with hlt | hge
      · obtain ⟨v', w', h1, h2, h3⟩ := run_append_arg_grows (P := P) w t ty e i z 1 by_ ht hi hz hsize hby hzs (by decide) ⟨g, 0, none⟩ n c vs (by simp [ho.len]) (World.ownsRow.cells ho' rfl) ⟨b, o, none⟩ 1 d _ hl hn hlt h63 hb
        obtain ⟨p', c', rfl, h4, h5⟩ := new v' w' h2 h3
        exact ⟨p', c', w', h1, h4, h5⟩
      · obtain ⟨w', h1, h2, h3⟩ := run_append_own_spare (P := P) w B t ty e i 1 ht hi hsize g n c _ ho' ⟨b, o, none⟩ 1 d _ hl hn h1' hge
        obtain ⟨p', c', hp, h4⟩ := fin _ _ w' h2
        injection hp with e4 e5 e6
        subst e4
        subst e6
        exact ⟨_, _, w', h1, h4, ⟨Or.inl ⟨rfl, rfl, h3⟩, fun e => absurd e (by omega)⟩, kept_of h3 (fun k hk => by cases hk; exact ⟨cur, _, hh⟩)⟩

end

/-- What a growing row leaves: all but its own block. -/
theorem Grow.ch2 {w w' : World} {p p' : Option Addr} {c c' : Nat} (h : Grow w w' p c p' c' ∧ (c = 0 → w.grownBy w' none)) (S : Nat → Prop) (hs : ∀ a, p = some a → 0 < c → S a.block) : Ch S w w' := by
  rcases Nat.eq_zero_or_pos c with h0 | h0
  · have h2 := h.2 h0
    exact ⟨h2.os, h2.tape, h2.output, h2.size, fun j hj _ => h2.block j hj fun e => by cases e⟩
  · exact h.1.ch S (fun a e => hs a e h0)

end Go.Proofs.Ytpjhadaiodnnaaa.M
