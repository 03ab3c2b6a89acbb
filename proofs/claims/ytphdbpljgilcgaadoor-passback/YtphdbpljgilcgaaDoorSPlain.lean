/-
  Own text: what See, Floor and Join tell, in plain words: what may be stays so; floors are the greater ones.
-/
import Derived.Test.YtphdbpljgilcgaaDoorSSee
namespace Go.Proofs.YtphdbpljgilcgaaDoor.M
open Go.ChangeShapes Go.WideShapes Go.ChangeAt Go.RowKit Go.Proofs
set_option linter.unusedSimpArgs false

/-- What was seen may be. -/
def May (L : List Sn) : Prop := L.length ≤ 6 ∧ Ris L ∧ ∀ s ∈ L, okK s.n = true ∧ s.v ≤ 1099511627776

theorem getD_eq {L : List Sn} {i : Nat} (h : i < L.length) : L.getD i .z0 = L[i] := by
  rw [List.getD_eq_getElem?_getD, List.getElem?_eq_getElem h]
  rfl

theorem okAt_iff (L : List Sn) (i : Nat) : okAt L i = true ↔ ((i = 0 ∨ (L.getD (i - 1) .z0).n < (L.getD i .z0).n) ∧ okK (L.getD i .z0).n = true ∧ 1 ≤ (L.getD i .z0).v ∧ (L.getD i .z0).v ≤ 1099511627776) := by
  unfold okAt
  simp only [Bool.and_eq_true, Bool.or_eq_true, decide_eq_true_iff]

theorem adj_pair {L : List Sn} (h : ∀ i, 0 < i → i < L.length → (L.getD (i - 1) .z0).n < (L.getD i .z0).n) : L.Pairwise (fun a b => a.n < b.n) := by
  rw [List.pairwise_iff_getElem]
  intro i j hi hj hij
  have key : ∀ d, i + 1 + d < L.length → (L.getD i .z0).n < (L.getD (i + 1 + d) .z0).n := by
    intro d
    induction d with
    | zero =>
      intro hd
      have := h (i + 1) (by omega) (by omega)
      simpa using this
    | succ d ih =>
      intro hd
      have h1 := ih (by omega)
      have h2 := h (i + 1 + (d + 1)) (by omega) hd
      rw [show i + 1 + (d + 1) - 1 = i + 1 + d by omega] at h2
      omega
  have := key (j - (i + 1)) (by omega)
  rw [show i + 1 + (j - (i + 1)) = j by omega, getD_eq hi, getD_eq hj] at this
  exact this

theorem right_iff (L : List Sn) : rightL L = 0 ↔ May L := by
  constructor
  · intro h
    have h6 := right_six h
    have hall : (List.range L.length).all (okAt L) = true := by
      unfold rightL at h
      rw [if_neg (by omega)] at h
      by_cases e : (List.range L.length).all (okAt L) = true
      · exact e
      · rw [if_neg e] at h; cases h
    have each : ∀ i, i < L.length → okAt L i = true := fun i hi => List.all_eq_true.1 hall i (List.mem_range.2 hi)
    refine ⟨h6, ⟨adj_pair fun i h0 hi => ?_, fun s hs => ?_⟩, fun s hs => ?_⟩
    · have := ((okAt_iff L i).1 (each i hi)).1
      omega
    · obtain ⟨i, hi, rfl⟩ := List.getElem_of_mem hs
      have := ((okAt_iff L i).1 (each i hi)).2.2.1
      rw [getD_eq hi] at this
      omega
    · obtain ⟨i, hi, rfl⟩ := List.getElem_of_mem hs
      have := (okAt_iff L i).1 (each i hi)
      rw [getD_eq hi] at this
      exact ⟨this.2.1, this.2.2.2⟩
  · rintro ⟨h6, hR, hk⟩
    unfold rightL
    rw [if_neg (by omega), if_pos]
    rw [List.all_eq_true]
    intro i hi
    have hi := List.mem_range.1 hi
    rw [okAt_iff, getD_eq hi]
    have h1 := hk L[i] (List.getElem_mem hi)
    have h2 := hR.2 L[i] (List.getElem_mem hi)
    refine ⟨?_, h1.1, by omega, h1.2⟩
    by_cases h0 : i = 0
    · exact Or.inl h0
    · refine Or.inr ?_
      rw [getD_eq (show i - 1 < L.length by omega)]
      exact List.pairwise_iff_getElem.1 hR.1 (i - 1) i (by omega) hi (by omega)

theorem max_le {u v c : Int} (h1 : u ≤ c) (h2 : v ≤ c) : max u v ≤ c := by omega

theorem May.ins {L : List Sn} (h : May L) {q : Nat} {v : Int} (hk : okK q = true) (hv : v ≤ 1099511627776) (h6 : (ins L q v).length ≤ 6) : May (ins L q v) :=
  ⟨h6, ins_ris L q v h.2.1, ins_all (p := fun s => okK s.n = true ∧ s.v ≤ 1099511627776) L q v h.2.2 (fun _ => ⟨hk, hv⟩) (fun a ha _ => ⟨hk, max_le (h.2.2 a ha).2 hv⟩)⟩

theorem see_may {L : List Sn} (h : May L) (q : Nat) (v : Int) : seeL L q v = if (okK q && (decide (0 ≤ v) && decide (v ≤ 1099511627776))) = true then (if 6 < (ins L q v).length then ([], 7) else (ins L q v, 0)) else ([], 100) := by
  unfold seeL
  rw [if_pos ((right_iff L).2 h)]

/-- Where See tells no error. -/
theorem see_ok {L : List Sn} {q : Nat} {v : Int} (h : (seeL L q v).2 = 0) : May L ∧ okK q = true ∧ 0 ≤ v ∧ v ≤ 1099511627776 ∧ (ins L q v).length ≤ 6 ∧ (seeL L q v).1 = ins L q v := by
  by_cases hL : rightL L = 0
  · have hM := (right_iff L).1 hL
    rw [see_may hM] at h ⊢
    by_cases hc : (okK q && (decide (0 ≤ v) && decide (v ≤ 1099511627776))) = true
    · rw [if_pos hc] at h ⊢
      by_cases h6 : 6 < (ins L q v).length
      · rw [if_pos h6] at h; cases h
      · rw [if_neg h6]
        simp only [Bool.and_eq_true, decide_eq_true_iff] at hc
        exact ⟨hM, hc.1, hc.2.1, hc.2.2, by omega, rfl⟩
    · rw [if_neg hc] at h; cases h
  · unfold seeL at h
    rw [if_neg hL] at h
    exact absurd h hL

theorem see_bad {L : List Sn} {q : Nat} {v : Int} (h : (seeL L q v).2 ≠ 0) : (seeL L q v).1 = [] := by
  unfold seeL at h ⊢
  split
  · next h1 =>
    rw [if_pos h1] at h
    split
    · next h2 =>
      rw [if_pos h2] at h
      split
      · rfl
      · next h3 => rw [if_neg h3] at h; exact absurd rfl h
    · rfl
  · rfl

theorem floor_may {L : List Sn} (h : May L) (q : Nat) : floorL L q = fl L q := by
  unfold floorL
  rw [fl_at L q h.2.1, decide_eq_true ((right_iff L).2 h), Bool.and_true]

/-- P10.4. -/
theorem floors {L : List Sn} {q : Nat} {v : Int} (h : (seeL L q v).2 = 0) : rightL (seeL L q v).1 = 0 ∧ floorL (seeL L q v).1 q = max v (floorL L q) ∧ ∀ o, o ≠ q → floorL (seeL L q v).1 o = floorL L o := by
  obtain ⟨hM, hk, h0, h1, h6, e⟩ := see_ok h
  have hM2 := hM.ins hk h1 h6
  rw [e]
  refine ⟨(right_iff _).2 hM2, ?_, fun o ho => ?_⟩
  · rw [floor_may hM2, floor_may hM, fl_ins L q v q hM.2.1 h0, if_pos rfl]
    omega
  · rw [floor_may hM2, floor_may hM, fl_ins L q v o hM.2.1 h0, if_neg ho]

/-- What Join tells. -/
def joinL (a b : List Sn) : List Sn × Int := if rightL b = 0 then (if rightL a = 0 then (if 6 < (joi a b).length then ([], 7) else (joi a b, 0)) else ([], rightL a)) else ([], rightL b)

theorem joi_app (a x y : List Sn) : joi a (x ++ y) = joi (joi a x) y := by simp [joi]

theorem May.joi {a b : List Sn} (ha : May a) (hb : May b) (h6 : (joi a b).length ≤ 6) : May (joi a b) :=
  ⟨h6, joi_ris b a ha.2.1, joi_all (p := fun s => okK s.n = true ∧ s.v ≤ 1099511627776) (fun _ _ _ h1 h2 => ⟨h1.1, max_le h1.2 h2.2⟩) b a ha.2.2 hb.2.2⟩

theorem May.front {b : List Sn} (h : May b) (k : Nat) : May (b.take k) :=
  ⟨by have := h.1; rw [List.length_take]; omega, ⟨h.2.1.1.sublist (List.take_sublist k b), fun s hs => h.2.1.2 s (List.mem_of_mem_take hs)⟩, fun s hs => h.2.2 s (List.mem_of_mem_take hs)⟩

theorem joi_front (a b : List Sn) (k : Nat) : (joi a (b.take k)).length ≤ (joi a b).length := by
  have h := joi_app a (b.take k) (b.drop k)
  rw [List.take_append_drop] at h
  rw [h]
  exact joi_len _ _

theorem join_ok {a b : List Sn} : (joinL a b).2 = 0 ↔ May a ∧ May b ∧ (joi a b).length ≤ 6 := by
  unfold joinL
  by_cases hb : rightL b = 0
  · rw [if_pos hb]
    by_cases ha : rightL a = 0
    · rw [if_pos ha]
      by_cases h6 : 6 < (joi a b).length
      · rw [if_pos h6]
        exact ⟨fun h => (by cases h), fun h => absurd h.2.2 (by omega)⟩
      · rw [if_neg h6]
        exact ⟨fun _ => ⟨(right_iff a).1 ha, (right_iff b).1 hb, by omega⟩, fun _ => rfl⟩
    · rw [if_neg ha]
      exact ⟨fun h => absurd h ha, fun h => absurd ((right_iff a).2 h.1) ha⟩
  · rw [if_neg hb]
    exact ⟨fun h => absurd h hb, fun h => absurd ((right_iff b).2 h.2.1) hb⟩

theorem join_val {a b : List Sn} (h : (joinL a b).2 = 0) : (joinL a b).1 = joi a b := by
  obtain ⟨ha, hb, h6⟩ := join_ok.1 h
  unfold joinL
  rw [if_pos ((right_iff b).2 hb), if_pos ((right_iff a).2 ha), if_neg (by omega)]

/-- P10.5. -/
theorem joined {a b : List Sn} : ((joinL a b).2 = 0 ↔ (joinL b a).2 = 0) ∧ ((joinL a b).2 = 0 → (joinL a b).1 = (joinL b a).1 ∧ (joinL (joinL a b).1 b).2 = 0 ∧ (joinL (joinL a b).1 b).1 = (joinL a b).1 ∧ ∀ q, floorL (joinL a b).1 q = max (floorL a q) (floorL b q)) := by
  have hs : ∀ {a b : List Sn}, (joinL a b).2 = 0 → (joinL b a).2 = 0 := fun {a b} h => by
    obtain ⟨ha, hb, h6⟩ := join_ok.1 h
    exact join_ok.2 ⟨hb, ha, by rw [← joi_comm ha.2.1 hb.2.1]; exact h6⟩
  refine ⟨⟨hs, hs⟩, fun h => ?_⟩
  obtain ⟨ha, hb, h6⟩ := join_ok.1 h
  have hJ := May.joi ha hb h6
  have e1 := join_val h
  have e2 := join_val (hs h)
  have e3 := joi_again ha.2.1 hb.2.1
  have h3 : (joinL (joi a b) b).2 = 0 := join_ok.2 ⟨hJ, hb, by rw [e3]; exact h6⟩
  rw [e1, e2]
  exact ⟨joi_comm ha.2.1 hb.2.1, h3, by rw [join_val h3, e3], fun q => by rw [floor_may hJ, floor_may ha, floor_may hb, fl_joi b a q ha.2.1 hb.2.1]⟩

end Go.Proofs.YtphdbpljgilcgaaDoor.M
