/-
  Own text: messages of the document's Net appended to a slice of the call's own.
-/
import Derived.Test.YtmnipfdcbmamnaaXRef2
namespace Go.Proofs.Ytmnipfdcbmamnaa.M
open Go.ChangeShapes Go.WideShapes Go.ChangeAt Go.RowKit Go.ChangeMaps Go.MapKept Go.Maps

/-- A message's cells. -/
def itC (t : It) : List Value := [.int .i64 t.1, .int .i64 t.2.1, .string t.2.2]

/-- The cells of messages, one behind the other. -/
def cellsI : List It → List Value
  | [] => []
  | t :: l => itC t ++ cellsI l

theorem cellsI_len : ∀ l : List It, (cellsI l).length = l.length * 3
  | [] => rfl
  | t :: l => by
    show (itC t ++ cellsI l).length = _
    rw [List.length_append, cellsI_len l, List.length_cons]
    show 3 + l.length * 3 = _
    omega

theorem cellsI_app : ∀ a b : List It, cellsI (a ++ b) = cellsI a ++ cellsI b
  | [], _ => rfl
  | t :: a, b => by
    show itC t ++ cellsI (a ++ b) = (itC t ++ cellsI a) ++ cellsI b
    rw [cellsI_app a b, List.append_assoc]

theorem cellsI_get : ∀ (l : List It) (i r : Nat), i < l.length → r < 3 → (cellsI l)[i * 3 + r]? = (itC (l.getD i (0, 0, ByteArray.empty)))[r]?
  | [], _, _, h, _ => absurd h (Nat.not_lt_zero _)
  | t :: l, 0, r, _, hr => by
    show (itC t ++ cellsI l)[0 * 3 + r]? = (itC t)[r]?
    rw [Nat.zero_mul, Nat.zero_add, List.getElem?_append_left (show r < (itC t).length from hr)]
  | t :: l, i + 1, r, h, hr => by
    show (itC t ++ cellsI l)[(i + 1) * 3 + r]? = (itC (l.getD i (0, 0, ByteArray.empty)))[r]?
    rw [List.getElem?_append_right (by show 3 ≤ _; omega), show (i + 1) * 3 + r - (itC t).length = i * 3 + r by show (i + 1) * 3 + r - 3 = _; omega]
    exact cellsI_get l i r (by rw [List.length_cons] at h; omega) hr

theorem itC_one {l : List It} : ∀ u ∈ cellsI l, u.oneCell' = true := by
  induction l with
  | nil => intro u hu; cases hu
  | cons t l ih =>
    intro u hu
    have hu' : u ∈ itC t ++ cellsI l := hu
    rcases List.mem_append.1 hu' with h | h
    · unfold itC at h
      simp only [List.mem_cons, List.not_mem_nil, or_false] at h
      rcases h with rfl | rfl | rfl
      · rfl
      · rfl
      · rfl
    · exact ih u h

theorem RdI.nth {w : World} {b o n c : Nat} {its : List It} (hr : RdI w (some ⟨b, o, none⟩) n c its) : ∀ j u, (cellsI its)[j]? = some u → w.cell? ((⟨b, o, none⟩ : Addr).add j) = some u := by
  intro j u hj
  have hj' : j < n * 3 := by
    rcases Nat.lt_or_ge j (n * 3) with h | h
    · exact h
    · rw [List.getElem?_eq_none (by rw [cellsI_len, hr.len]; exact h)] at hj; cases hj
  obtain ⟨b', o', e, hc⟩ := hr.cells (by omega)
  cases e
  have hi : j / 3 < n := by omega
  obtain ⟨k0, k1, k2⟩ := hc (j / 3) hi
  rw [Addr.add_lit]
  have hd : j = j / 3 * 3 + j % 3 := by omega
  rw [hd, cellsI_get its (j / 3) (j % 3) (by rw [hr.len]; exact hi) (Nat.mod_lt _ (by decide))] at hj
  rcases (show j % 3 = 0 ∨ j % 3 = 1 ∨ j % 3 = 2 by omega) with h | h | h
  · rw [h] at hj
    cases hj
    rw [show o + j = o + j / 3 * 3 by omega]
    exact k0
  · rw [h] at hj
    cases hj
    rw [show o + j = o + j / 3 * 3 + 1 by omega]
    exact k1
  · rw [h] at hj
    cases hj
    rw [show o + j = o + j / 3 * 3 + 2 by omega]
    exact k2

/-- A slice of the call's own (from block B on) that holds these messages. -/
def OwI (w : World) (B : Nat) (v : Value) (its : List It) : Prop := w.ownsRow B 77 3 v its.length (cellsI its)

theorem OwI.nil (w : World) (B : Nat) : OwI w B (.slice none 0 0) [] := ⟨rfl, Or.inl ⟨rfl, rfl⟩⟩

theorem OwI.below {w w' : World} {B : Nat} {v : Value} {its : List It} (h : OwI w B v its) (hb : Below w.heap.size w w') : OwI w' B v its := ownsRow_below h hb

theorem OwI.rd {w : World} {B : Nat} {v : Value} {its : List It} (h : OwI w B v its) : ∃ q c, v = .slice q its.length c ∧ (∀ a, q = some a → B ≤ a.block) ∧ RdI w q its.length c its := by
  have h' : w.ownsRow B 77 3 v its.length (cellsI its) := h
  rcases h.2 with ⟨rfl, h2⟩ | ⟨g, cap, cur, rfl, hg, hh, hc, _, hs, _⟩
  · refine ⟨none, 0, by rw [h2], (fun _ e => by cases e), rfl, by omega, fun _ => rfl, fun h => ?_, (fun a e => by cases e)⟩
    omega
  · refine ⟨_, _, rfl, (fun _ e => by cases e; exact hg), rfl, hc, (fun e => by cases e), fun _ => ⟨g, 0, rfl, fun i hi => ?_⟩, fun a e _ => by cases e; exact ⟨_, _, hh⟩⟩
    have hcell : ∀ r, r < 3 → ∀ u, (itC (its.getD i (0, 0, ByteArray.empty)))[r]? = some u → w.cell? ⟨g, i * 3 + r, none⟩ = some u := fun r hr u hu => by
      have h4 := World.ownsRow.cells h' (g := g) rfl (i * 3 + r) u (by rw [cellsI_get its i r hi hr]; exact hu)
      rw [Addr.add_lit, Nat.zero_add] at h4
      exact h4
    rw [Nat.zero_add]
    exact ⟨hcell 0 (by decide) _ rfl, hcell 1 (by decide) _ rfl, hcell 2 (by decide) _ rfl⟩

theorem infoIt : (Try.prog.info? 77).map (fun i => (i.zero, i.size, i.bytes)) = some (some (.agg #[.int .i64 0, .int .i64 0, .string { data := #[] }]), 3, 32) := by kernel_rfl

/-- append(s, l...) on a slice of the call's own. -/
theorem run_appI {w : World} {B : Nat} {v : Value} {A : List It} (ty : TypeId) (ho : OwI w B v A) {q : Option Addr} {m d : Nat} {L : List It} (hr : RdI w q m d L) (hA : A.length ≤ 1000000) (hm : m ≤ 1000000) (hB : B ≤ w.heap.size) :
    ∃ v' w', (Builtin.append_ #[28, 28] ty #[v, .slice q m d]).run Try.prog w = .ok v' w' ∧ OwI w' B v' (A ++ L) ∧ Below B w w' := by
  obtain ⟨i, hi, hz, hsize, hby⟩ : ∃ i, Try.prog.info? 77 = some i ∧ i.zero = some (.agg #[.int .i64 0, .int .i64 0, .string { data := #[] }]) ∧ i.size = 3 ∧ i.bytes = 32 := by
    have := infoIt
    cases hq : Try.prog.info? 77 with
    | none => rw [hq] at this; cases this
    | some i =>
      rw [hq] at this
      simp only [Option.map_some, Option.some.injEq, Prod.mk.injEq] at this
      exact ⟨i, rfl, this.1, this.2.1, this.2.2⟩
  have hU : Try.prog.underlying 28 = some (.slice 77) := Try.underlying28
  cases q with
  | none =>
    have hd := hr.nil rfl
    have hm0 : m = 0 := by have := hr.cap; omega
    subst hd hm0
    have hL : L = [] := List.eq_nil_of_length_eq_zero hr.len
    subst hL
    refine ⟨v, w, run_append_owned_none w B 28 ty 77 i 3 hU hi v A.length (cellsI A) ho, ?_, Below.refl _ _⟩
    rw [List.append_nil]
    exact ho
  | some a =>
    have hnth : ∀ j u, (cellsI L)[j]? = some u → w.cell? (a.add j) = some u := by
      by_cases h0 : 0 < m
      · obtain ⟨b, o, e, _⟩ := hr.cells h0
        cases e
        exact hr.nth
      · intro j u hj
        have hL : L = [] := List.eq_nil_of_length_eq_zero (by rw [hr.len]; omega)
        subst hL
        cases hj
    obtain ⟨v', w', h1, h2, h3, _⟩ := run_append_own (P := Try.prog) (w := w) B 28 ty 77 i _ 3 32 hU hi hz hsize hby (by rfl) (by decide) v A.length (cellsI A) ho a m d (cellsI L) (by rw [cellsI_len, hr.len]) hnth itC_one (by unfold maxLen; omega) (by omega) hB
    refine ⟨v', w', h1, ?_, ?_⟩
    · unfold OwI
      rw [cellsI_app, List.length_append, hr.len]
      exact h2
    · refine (Below.refl B w).grown h3 hB fun r hr => ?_
      rcases ho.2 with ⟨rfl, _⟩ | ⟨g', cap, cur, rfl, hg, _⟩
      · cases hr
      · cases hr; exact hg

/-- The messages ahead of one. -/
theorem RdI.front {w : World} {p : Option Addr} {n c : Nat} {its : List It} (h : RdI w p n c its) {k : Nat} (hk : k ≤ n) : RdI w p k c (its.take k) :=
  ⟨by rw [List.length_take, h.len]; omega, Nat.le_trans hk h.cap, h.nil, fun h0 => by
    obtain ⟨b, o, e, hc⟩ := h.cells (by omega)
    refine ⟨b, o, e, fun i hi => ?_⟩
    have e2 : (its.take k).getD i (0, 0, ByteArray.empty) = its.getD i (0, 0, ByteArray.empty) := by rw [List.getD_eq_getElem?_getD, List.getD_eq_getElem?_getD, List.getElem?_take_of_lt hi]
    rw [e2]
    exact hc i (by omega), fun a e h0 => h.row a e (by omega)⟩

/-- .. and behind it. -/
theorem RdI.back {w : World} {b o n c : Nat} {its : List It} (h : RdI w (some ⟨b, o, none⟩) n c its) {k : Nat} (hk : k < n) : RdI w (some ⟨b, o + k * 3, none⟩) (n - k) (c - k) (its.drop k) :=
  ⟨by rw [List.length_drop, h.len], by have := h.cap; omega, (fun e => by cases e), fun _ => ⟨b, o + k * 3, rfl, fun i hi => by
    obtain ⟨b', o', e, hc⟩ := h.cells (by omega)
    cases e
    have e2 : (its.drop k).getD i (0, 0, ByteArray.empty) = its.getD (k + i) (0, 0, ByteArray.empty) := by rw [List.getD_eq_getElem?_getD, List.getD_eq_getElem?_getD, List.getElem?_drop]
    rw [e2, show o + k * 3 + i * 3 = o + (k + i) * 3 by omega]
    exact hc (k + i) (by omega)⟩, fun a e h0 => by cases e; exact h.row ⟨b, o, none⟩ rfl (by omega)⟩

end Go.Proofs.Ytmnipfdcbmamnaa.M
