/-
  Own text: only links have messages; what Busy tells of a Net in plain words.
-/
import Derived.Test.YtmnipfdcbmamnaaNBus2
import Derived.Test.YtmnipfdcbmamnaaNDo2
import Derived.Test.YtmnipfdcbmamnaaNShort
namespace Go.Proofs.Ytmnipfdcbmamnaa.M
open Go.ChangeShapes Go.WideShapes Go.ChangeAt Go.RowKit Go.ChangeMaps Go.MapKept Go.Maps

variable {Z : Nat → Prop}

/-- Only links have messages. -/
def Lks (m : PN) : Prop := ∀ x y, m.N x y ≠ [] → isLk x y = true

theorem Lks.new : Lks ⟨fun _ _ => [], 0, 0⟩ := fun _ _ h => absurd rfl h

theorem upN_lks {N : Int → Int → List ByteArray} {a c : Int} {l : List ByteArray} (h : ∀ x y, N x y ≠ [] → isLk x y = true) (hl : l ≠ [] → isLk a c = true) : ∀ x y, upN N a c l x y ≠ [] → isLk x y = true := by
  intro x y hn
  unfold upN at hn
  by_cases e : x = a ∧ y = c
  · rw [if_pos e] at hn
    rw [e.1, e.2]
    exact hl hn
  · rw [if_neg e] at hn
    exact h x y hn

theorem ne_of_len {l : List ByteArray} {i : Int} (h : 0 ≤ i ∧ i < l.length) : l ≠ [] := by
  intro e
  rw [e] at h
  have h2 : i < ((0 : Nat) : Int) := h.2
  omega

theorem Lks.act {m : PN} (h : Lks m) (z : Int) (k : Nd) : Lks (m.act z k).1 := by
  unfold PN.act
  split
  · split
    · next h1 => exact upN_lks h (fun _ => h _ _ (ne_of_len h1))
    · exact h
  · split
    · split
      · next h1 => exact upN_lks h (fun _ => h _ _ (ne_of_len h1))
      · exact h
    · split
      · split
        · next h1 =>
          split
          · exact upN_lks h (fun _ => h _ _ (ne_of_len h1))
          · exact h
        · exact h
      · split
        · exact h
        · split
          · intro x y hn
            refine h x y (fun e => hn ?_)
            show clrN m.N k.i x y = []
            unfold clrN
            rw [e]
            split <;> rfl
          · split
            · exact h
            · next h1 =>
              split
              · exact h
              · split
                · exact upN_lks h (fun _ => by cases e : isLk k.x k.y with | false => exact absurd e h1 | true => rfl)
                · exact h

theorem Lks.step {m : PN} (h : Lks m) (k : Nd) : Lks (m.step k).1 := h.act _ k

theorem wf_small {x : Int} (h0 : 0 ≤ x) (h1 : x < 32) : Wf x := by
  unfold Wf
  simp only [Lit.wf, IntKind.min, IntKind.max, IntKind.signed, IntKind.bits, Bool.and_eq_true, decide_eq_true_eq, if_true]
  omega

theorem lk_wf {x y : Int} (h : isLk x y = true) : (Wf x ∧ 0 ≤ x ∧ x < 32) ∧ Wf y ∧ 0 ≤ y ∧ y < 32 := by
  unfold isLk isPl at h
  simp only [Bool.and_eq_true, decide_eq_true_eq] at h
  obtain ⟨⟨h1, h2⟩, ⟨h3, h4⟩, _⟩ := h
  exact ⟨⟨wf_small h1 h2, h1, h2⟩, wf_small h3 h4, h3, h4⟩

/-- What Busy tells of a Net. -/
structure BusyN (N : Int → Int → List ByteArray) (ss : List (Int × Int)) : Prop where
  nodup : ss.Nodup
  mem : ∀ s, s ∈ ss ↔ N s.1 s.2 ≠ []
  sorted : ss.Pairwise fun x y => ¬ (y.1 < x.1 ∨ (y.1 = x.1 ∧ y.2 < x.2))

theorem nv_some {l : List ByteArray} {v : Value} : (∃ u, nv l v = some u) ↔ l ≠ [] := by
  cases l with
  | nil => simp [nv]
  | cons a b => simp [nv]

theorem BusyIs.net {m : PN} {R : Int → Int → Value} {ss : List (Int × Int)} (h : BusyIs (fL fun x y => nv (m.N x y) (R x y)) ss) (hl : Lks m) : BusyN m.N ss := by
  refine ⟨h.nodup, fun s => ⟨fun hs => ?_, fun hn => ?_⟩, h.sorted⟩
  · obtain ⟨v, hv⟩ := h.there s hs
    exact nv_some.1 ⟨v, hv⟩
  · obtain ⟨v, hv⟩ := (nv_some (v := R s.1 s.2)).2 hn
    obtain ⟨⟨h1, _⟩, h2, _⟩ := lk_wf (hl _ _ hn)
    exact h.all s _ v (key_ok h1 h2) hv

theorem BusyM_any {w : World} {B g b n : Nat} {m : PN} (h : NM Z w B g b n m) (hl : Lks m) (hn : n ≤ 1000000) :
    Calls Try.prog 18 #[.pointer (some ⟨g, 0, none⟩)] w fun e w' => ∃ v, e = .returned v ∧ ∃ p q c ss, v = .slice p q c ∧ BusyN m.N ss ∧ RdL w' p q c ss ∧ q ≤ n ∧ (∀ a, p = some a → w.heap.size ≤ a.block) ∧ Below w.heap.size w w' := by
  obtain ⟨⟨R, h1⟩, _⟩ := h
  refine (Busy_any h1 hn).mono ?_
  rintro e w' ⟨v, rfl, p, q, c, ss, rfl, hB, hR, hq, hp, hb⟩
  exact ⟨_, rfl, p, q, c, ss, rfl, hB.net hl, hR, hq, hp, hb⟩

theorem LenM_any {w : World} {B g b n : Nat} {m : PN} (h : NM Z w B g b n m) {x y : Int} (hx : Wf x) (hy : Wf y) :
    Calls Try.prog 13 #[.pointer (some ⟨g, 0, none⟩), .agg #[.int .i64 x, .int .i64 y]] w fun o w' => o = .returned (.int .i64 (m.N x y).length) ∧ Below w.heap.size w w' := by
  obtain ⟨⟨R, h1⟩, _⟩ := h
  exact nLen_any h1 hx hy

end Go.Proofs.Ytmnipfdcbmamnaa.M
