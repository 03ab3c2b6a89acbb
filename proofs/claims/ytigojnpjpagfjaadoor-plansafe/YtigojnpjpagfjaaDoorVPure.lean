/-
  Own text: what becomes of a chain by plans, in plain words: no program is looked at.
-/
import Derived.Test.YtigojnpjpagfjaaDoorVBegin
namespace Go.Proofs.YtigojnpjpagfjaaDoor.M
open Go.ChangeShapes Go.WideShapes Go.ChangeAt Go.RowKit

theorem getD_get {l : List Mb} {j : Nat} (h : j < l.length) : l.getD j .z0 = l[j] := by
  rw [List.getD_eq_getElem?_getD, List.getElem?_eq_getElem h]
  rfl

theorem plc_iff {e : Int} {ms : List Mb} (hc : chk e ms = true) {j : Nat} (hj : j < ms.length) (nd : Int) : (ms.getD j .z0).n = nd ↔ plc e ms nd = (j : Int) := by
  constructor
  · intro h
    rw [← h]
    exact plc_at hc hj
  · intro h
    unfold plc at h
    rw [if_pos hc] at h
    have := (ixM_some (fun m => m.n == nd) ms 0 j (by rw [h, Nat.zero_add])).2.1
    simpa using this

/-- A member that has all, if it is that node. -/
def clr1 (nd : Int) (m : Mb) : Mb := if m.n = nd then ⟨m.n, m.s, false⟩ else m

theorem rdStep_map {e : Int} {ms : List Mb} (hc : chk e ms = true) (nd : Int) : rdStep e ms nd = ms.map (clr1 nd) := by
  have hb := plc_bounds e ms nd
  have key : ∀ j (hj : j < ms.length), ms[j].n = nd ↔ plc e ms nd = (j : Int) := fun j hj => by rw [← getD_get hj]; exact plc_iff hc hj nd
  unfold rdStep readyR
  rw [hc]
  simp only [Bool.true_eq_false, if_false]
  by_cases h : plc e ms nd = -1 ∨ (ms.getD (plc e ms nd).toNat .z0).f = false
  · rw [if_pos h]
    show ms = ms.map (clr1 nd)
    have hid : ∀ m ∈ ms, clr1 nd m = m := fun m hm => by
      obtain ⟨j, hj, rfl⟩ := List.getElem_of_mem hm
      unfold clr1
      split
      · next hn =>
        have hp := (key j hj).1 hn
        have hf : ms[j].f = false := by
          rcases h with h | h
          · omega
          · rw [hp, Int.toNat_natCast, getD_get hj] at h
            exact h
        generalize ms[j] = mm at hf
        obtain ⟨a, b, c⟩ := mm
        simp only at hf
        rw [hf]
      · rfl
    rw [List.map_congr_left hid, List.map_id']
  · rw [if_neg h]
    show ms.set (plc e ms nd).toNat { ms.getD (plc e ms nd).toNat .z0 with f := false } = _
    have hi : (plc e ms nd).toNat < ms.length := by omega
    have hpi : plc e ms nd = ((plc e ms nd).toNat : Int) := by omega
    generalize (plc e ms nd).toNat = i at *
    apply List.ext_getElem (by simp)
    intro j h1 h2
    rw [List.getElem_map, List.getElem_set]
    have hj : j < ms.length := by simpa using h2
    unfold clr1
    split
    · next hij =>
      subst hij
      rw [if_pos ((key i hj).2 hpi), getD_get hj]
    · next hij =>
      rw [if_neg (fun hn => hij (by have := (key j hj).1 hn; omega))]

theorem rdStep_chk {e : Int} {ms : List Mb} (hc : chk e ms = true) (nd : Int) : chk e (rdStep e ms nd) = true := by
  unfold rdStep
  split
  · next e' ms' h =>
    obtain ⟨h1, h2, _⟩ := ready_chk hc h
    rw [h1] at h2
    exact h2
  · exact hc

/-- Members, of which all are ready that are in a list. -/
def clrL (xs : List Int) (m : Mb) : Mb := ⟨m.n, m.s, m.f && !(xs.any (· == m.n))⟩

theorem fold_map (e : Int) : ∀ (xs : List Int) (ms : List Mb), chk e ms = true → xs.foldl (rdStep e) ms = ms.map (clrL xs) ∧ chk e (xs.foldl (rdStep e) ms) = true
  | [], ms, hc => by
    refine ⟨?_, hc⟩
    rw [List.foldl_nil]
    have : clrL [] = id := by funext m; obtain ⟨a, b, c⟩ := m; simp [clrL]
    rw [this, List.map_id]
  | nd :: xs, ms, hc => by
    obtain ⟨h1, h2⟩ := fold_map e xs (rdStep e ms nd) (rdStep_chk hc nd)
    rw [List.foldl_cons]
    refine ⟨?_, h2⟩
    rw [h1, rdStep_map hc, List.map_map]
    congr 1
    funext m
    obtain ⟨a, b, c⟩ := m
    simp only [Function.comp, clr1, clrL, List.any_cons]
    by_cases h : a = nd
    · subst h; simp
    · have : (nd == a) = false := by simpa using fun e => h e.symm
      simp [h, this]

theorem any_allL (p : Nat → Bool) : ∀ (n : Nat) (j : Int), (allL p n).any (· == j) = (decide (0 ≤ j ∧ j < (n : Int)) && p j.toNat)
  | 0, j => by
    have : decide (0 ≤ j ∧ j < ((0 : Nat) : Int)) = false := decide_eq_false (by omega)
    rw [this]
    rfl
  | n + 1, j => by
    have ih := any_allL p n j
    cases hp : p n with
    | true =>
      rw [allL_step hp, List.any_append, ih]
      by_cases hj : j = (n : Int)
      · subst hj
        simp [hp]
        omega
      · have h1 : ((n : Int) == j) = false := by simpa using fun e => hj e.symm
        have h2 : (0 ≤ j ∧ j < ((n + 1 : Nat) : Int)) ↔ (0 ≤ j ∧ j < (n : Int)) := by omega
        simp only [List.any_cons, List.any_nil, h1, Bool.or_false, decide_eq_decide.2 h2]
    | false =>
      rw [allL_skip hp, ih]
      by_cases hj : j = (n : Int)
      · subst hj
        simp [hp]
      · have h2 : (0 ≤ j ∧ j < ((n + 1 : Nat) : Int)) ↔ (0 ≤ j ∧ j < (n : Int)) := by omega
        rw [decide_eq_decide.2 h2]

theorem any_alive (al : Nat) (j : Int) : (allL (bt al) 64).any (· == j) = hasN al j := by
  rw [any_allL]
  rfl

/-- A member that has all, if it is alive. -/
def fl (al : Nat) (m : Mb) : Mb := ⟨m.n, m.s, m.f && !hasN al m.n⟩

theorem readyA_map {al : Nat} {e : Int} {ms : List Mb} (hc : chk e ms = true) : readyA al e ms = ms.map (fl al) := by
  have ha := any_alive al
  unfold readyA
  generalize allL (bt al) 64 = xs at *
  rw [(fold_map e xs ms hc).1]
  congr 1
  funext m
  unfold clrL fl
  rw [ha]

theorem readyA_chk {al : Nat} {e : Int} {ms : List Mb} (hc : chk e ms = true) : chk e (readyA al e ms) = true := by
  unfold readyA
  generalize allL (bt al) 64 = xs
  exact (fold_map e xs ms hc).2

/-- Whoever lives has all. -/
def Lively (al : Nat) (ms : List Mb) : Prop := ∀ m ∈ ms, hasN al m.n = true → m.f = false

theorem readyA_lively {al : Nat} {e : Int} {ms : List Mb} (hc : chk e ms = true) : Lively al (readyA al e ms) := by
  rw [readyA_map hc]
  intro m hm h
  obtain ⟨m', _, rfl⟩ := List.mem_map.1 hm
  have h' : hasN al m'.n = true := h
  show (m'.f && !hasN al m'.n) = false
  rw [h']
  simp

theorem fl_id {al : Nat} {ms : List Mb} (h : Lively al ms) : ms.map (fl al) = ms := by
  have : ∀ m ∈ ms, fl al m = m := fun m hm => by
    obtain ⟨a, b, c⟩ := m
    unfold fl
    cases hh : hasN al a with
    | false => simp
    | true => have := h _ hm hh; simp at this; subst this; simp
  rw [List.map_congr_left this, List.map_id']

/-- How many do not live; how many do. -/
def deadC (al : Nat) (ms : List Mb) : Nat := ms.countP fun m => !hasN al m.n
def liveC (al : Nat) (ms : List Mb) : Nat := ms.countP fun m => hasN al m.n

theorem dead_live (al : Nat) (ms : List Mb) : deadC al ms + liveC al ms = ms.length := by
  unfold deadC liveC
  rw [List.length_eq_countP_add_countP (fun m : Mb => hasN al m.n), Nat.add_comm]
  congr 1
  apply List.countP_congr
  intro m _
  simp

/-- So many commands can be told at most. -/
def muA (al : Nat) (ms : List Mb) : Nat := deadC al ms + (6 - liveC al ms)

theorem deadC_map (al : Nat) (ms : List Mb) : deadC al (ms.map (fl al)) = deadC al ms := by unfold deadC; rw [List.countP_map]; rfl
theorem liveC_map (al : Nat) (ms : List Mb) : liveC al (ms.map (fl al)) = liveC al ms := by unfold liveC; rw [List.countP_map]; rfl

theorem deadR_some {al : Nat} {e : Int} {ms : List Mb} {x : Cm} {e2 : Int} {ms2 : List Mb} : ∀ {l : List Mb}, deadR al e ms l = some (x, e2, ms2) → ∃ m ∈ l, hasN al m.n = false ∧ cutR (fun y => y.n == m.n) e ms = .ok (e2, ms2) ∧ x = ⟨1, m.n, 0, e⟩
  | [], h => by cases h
  | m :: l, h => by
    rw [deadR] at h
    split at h
    · obtain ⟨m', h1, h2⟩ := deadR_some h
      exact ⟨m', List.mem_cons_of_mem _ h1, h2⟩
    · next hh =>
      split at h
      · next e' ms' hc =>
        cases h
        exact ⟨m, List.mem_cons_self, by simpa using hh, hc, rfl⟩
      · obtain ⟨m', h1, h2⟩ := deadR_some h
        exact ⟨m', List.mem_cons_of_mem _ h1, h2⟩

theorem deadR_none {al : Nat} {e : Int} {ms : List Mb} : ∀ {l : List Mb}, deadR al e ms l = none → ∀ m ∈ l, hasN al m.n = true ∨ ∃ k, cutR (fun y => y.n == m.n) e ms = .error k
  | [], _, m, hm => by cases hm
  | a :: l, h, m, hm => by
    rw [deadR] at h
    split at h
    · next hh =>
      rcases List.mem_cons.1 hm with rfl | h1
      · exact Or.inl hh
      · exact deadR_none h m h1
    · split at h
      · cases h
      · next k hc =>
        rcases List.mem_cons.1 hm with rfl | h1
        · exact Or.inr ⟨k, hc⟩
        · exact deadR_none h m h1

theorem joinsR_some {al : Nat} {hs : List Int} {e : Int} {ms : List Mb} {x : Cm} {e2 : Int} {ms2 : List Mb} : ∀ {l : List Int} {k : Nat}, joinsR al hs e ms k l = some (x, e2, ms2) → ∃ j : Nat, k ≤ j ∧ j < k + l.length ∧ l.getD (j - k) 0 ≠ 0 ∧ joinR e ms ⟨spareV al hs ms j, j, false⟩ = .ok (e2, ms2) ∧ x = ⟨2, spareV al hs ms j, j, e⟩
  | [], k, h => by cases h
  | y :: l, k, h => by
    have next : joinsR al hs e ms (k + 1) l = some (x, e2, ms2) → ∃ j : Nat, k ≤ j ∧ j < k + (y :: l).length ∧ (y :: l).getD (j - k) 0 ≠ 0 ∧ joinR e ms ⟨spareV al hs ms j, j, false⟩ = .ok (e2, ms2) ∧ x = ⟨2, spareV al hs ms j, j, e⟩ := fun h => by
      obtain ⟨j, h1, h2, h3, h4⟩ := joinsR_some h
      refine ⟨j, by omega, by rw [List.length_cons]; omega, ?_, h4⟩
      rw [show j - k = (j - (k + 1)) + 1 by omega]
      exact h3
    rw [joinsR] at h
    split at h
    · exact next h
    · next hy =>
      split at h
      · next e' ms' hc =>
        cases h
        exact ⟨k, Nat.le_refl _, by rw [List.length_cons]; omega, by rw [Nat.sub_self]; exact hy, hc, rfl⟩
      · exact next h

theorem joinsR_none {al : Nat} {hs : List Int} {e : Int} {ms : List Mb} : ∀ {l : List Int} {k : Nat}, joinsR al hs e ms k l = none → ∀ i, i < l.length → l.getD i 0 = 0 ∨ ∃ er, joinR e ms ⟨spareV al hs ms ((k + i : Nat) : Int), ((k + i : Nat) : Int), false⟩ = .error er
  | [], k, _, i, hi => by cases hi
  | y :: l, k, h, i, hi => by
    have next : joinsR al hs e ms (k + 1) l = none → 0 < i → (y :: l).getD i 0 = 0 ∨ ∃ er, joinR e ms ⟨spareV al hs ms ((k + i : Nat) : Int), ((k + i : Nat) : Int), false⟩ = .error er := fun h h0 => by
      obtain ⟨i', rfl⟩ : ∃ i', i = i' + 1 := ⟨i - 1, by omega⟩
      have := joinsR_none h i' (by simpa using hi)
      rw [show k + (i' + 1) = k + 1 + i' by omega]
      exact this
    rw [joinsR] at h
    split at h
    · next hy =>
      by_cases h0 : i = 0
      · subst h0; exact Or.inl hy
      · exact next h (by omega)
    · split at h
      · cases h
      · next er hc =>
        by_cases h0 : i = 0
        · subst h0; exact Or.inr ⟨er, hc⟩
        · exact next h (by omega)

theorem spare_alive {al : Nat} {hs : List Int} {ms : List Mb} {s : Int} (h : 0 ≤ spareV al hs ms s) : hasN al (spareV al hs ms s) = true := by
  unfold spareV lowV at *
  have hlt : spareW al hs ms s < 18446744073709551616 := and_lt64 (and_lt64 (homN_lt _ _ _))
  split at h
  · omega
  · next h0 =>
    rw [if_neg h0]
    have h1 := (tz_spec (by omega) hlt).1
    have h2 := tz_lt (by omega) hlt
    generalize tz (spareW al hs ms s) = T at *
    unfold hasN
    rw [decide_eq_true (by omega), Int.toNat_natCast]
    unfold spareW at h1
    rw [Nat.testBit_and, Nat.testBit_and, Bool.and_eq_true, Bool.and_eq_true] at h1
    rw [h1.1.2]
    rfl

theorem countP_ins (p : Mb → Bool) (L : List Mb) (i : Nat) (m : Mb) : (insM L i m).countP p = L.countP p + if p m = true then 1 else 0 := by
  unfold insM
  rw [List.countP_append, List.countP_cons]
  have := List.countP_append (p := p) (l₁ := L.take i) (l₂ := L.drop i)
  rw [List.take_append_drop] at this
  omega

theorem cut_live {al : Nat} {nd e e2 : Int} {ms ms2 : List Mb} (hc : chk e ms = true) (hl : Lively al ms) (hd : hasN al nd = false) (h : cutR (fun y => y.n == nd) e ms = .ok (e2, ms2)) : liveC al ms2 = liveC al ms ∧ ms2.Sublist (ms.filter fun y => !(y.n == nd)) := by
  unfold cutR at h
  rw [hc] at h
  simp only [Bool.true_eq_false, if_false] at h
  split at h
  · cases h
  split at h
  · cases h
  split at h
  · cases h
  next h1 h2 h3 =>
  cases h
  generalize hf : ms.filter (fun m => !(fun y : Mb => y.n == nd) m) = F at *
  have hF : ms.filter (fun y => !(y.n == nd)) = F := hf
  refine ⟨?_, List.drop_sublist _ _⟩
  obtain ⟨i, hi⟩ : ∃ i : Nat, ixM (fun m => !m.f) 0 F = ((0 + i : Nat) : Int) := ⟨(ixM (fun m => !m.f) 0 F).toNat, by omega⟩
  obtain ⟨_, _, h4⟩ := ixM_some (fun m => !m.f) F 0 i hi
  rw [hi, Nat.zero_add, Int.toNat_natCast]
  have e1 : liveC al F = liveC al ms := by
    unfold liveC
    rw [← hF, List.countP_filter]
    apply List.countP_congr
    intro m _
    constructor
    · intro h; simp at h; exact h.1
    · intro h
      simp only [Bool.and_eq_true, Bool.not_eq_true', beq_eq_false_iff_ne]
      exact ⟨h, fun e => by rw [e, hd] at h; cases h⟩
  have e2 : liveC al F = liveC al (F.take i) + liveC al (F.drop i) := by
    unfold liveC
    rw [← List.countP_append, List.take_append_drop]
  have e3 : liveC al (F.take i) = 0 := by
    unfold liveC
    rw [List.countP_eq_zero]
    intro m hm hh
    have h5 : m ∈ (F.take i).filter (fun m => !(fun m : Mb => !m.f) m) := by rw [h4]; exact hm
    have h6 := (List.mem_filter.1 h5).2
    simp at h6
    have h7 : m ∈ ms := by
      have : m ∈ F := List.mem_of_mem_take hm
      rw [← hF] at this
      exact (List.mem_filter.1 this).1
    have := hl m h7 hh
    rw [h6] at this
    cases this
  omega

theorem sub_countP {p : Mb → Bool} {l l' : List Mb} (h : l.Sublist l') : l.countP p ≤ l'.countP p := h.countP_le

/-- Each command makes less to be told. -/
theorem next_less {al : Nat} {hs vs : List Int} {e e2 : Int} {ms ms2 : List Mb} {x : Cm} (hc : chk e ms = true) (hl : Lively al ms) (h : nextR al hs vs e ms = some (x, e2, ms2)) : chk e2 ms2 = true ∧ e2 = e + 1 ∧ muA al ms2 < muA al ms := by
  unfold nextR at h
  split at h
  · next y hd =>
    cases h
    obtain ⟨m, hm, h1, h2, _⟩ := deadR_some hd
    obtain ⟨c1, c2, _⟩ := cut_chk hc h2
    obtain ⟨c3, c4⟩ := cut_live hc hl h1 h2
    refine ⟨c2, c1, ?_⟩
    unfold muA
    rw [c3]
    have k1 : deadC al ms2 ≤ deadC al (ms.filter fun y => !(y.n == m.n)) := sub_countP c4
    have k2 : deadC al (ms.filter fun y => !(y.n == m.n)) < deadC al ms := by
      unfold deadC
      rw [List.countP_filter]
      have k3 := List.countP_eq_length_filter (p := fun y : Mb => !hasN al y.n) (l := ms)
      have k4 := List.countP_eq_length_filter (p := fun y : Mb => !hasN al y.n && !(y.n == m.n)) (l := ms)
      rw [k3, k4, ← List.filter_filter]
      rw [show (ms.filter fun y => !(y.n == m.n)).filter (fun y => !hasN al y.n) = (ms.filter fun y => !hasN al y.n).filter (fun y => !(y.n == m.n)) by rw [List.filter_filter, List.filter_filter]; congr 1; funext y; exact Bool.and_comm _ _]
      have hmm : m ∈ ms.filter fun y => !hasN al y.n := List.mem_filter.2 ⟨hm, by simp [h1]⟩
      generalize (ms.filter fun y => !hasN al y.n) = G at *
      rcases Nat.lt_or_ge (G.filter fun y => !(y.n == m.n)).length G.length with h5 | h5
      · exact h5
      · have h6 := List.length_filter_le (fun y : Mb => !(y.n == m.n)) G
        have h7 := filter_all (kp := fun y : Mb => !(y.n == m.n)) (ms := G) (by omega)
        rw [← h7] at hmm
        have := (List.mem_filter.1 hmm).2
        simp at this
    omega
  · next hd =>
    unfold joinA at h
    split at h
    · obtain ⟨j, _, _, _, h2, _⟩ := joinsR_some h
      obtain ⟨c1, c2, c3, c4, c5⟩ := join_chk hc h2
      refine ⟨c2, c1, ?_⟩
      have hmb := (isMb_iff _).1 c3
      have ha := spare_alive hmb.1
      have hp := chk_parts c2
      have k0 := dead_live al ms2
      have k1 : deadC al ms2 = deadC al ms := by unfold deadC; rw [c5, countP_ins]; simp [ha]
      have k2 : liveC al ms2 = liveC al ms + 1 := by unfold liveC; rw [c5, countP_ins]; simp [ha]
      unfold muA
      omega
    · cases h

/-- All commands, one behind the other, and the chain behind them. -/
def Steps (al : Nat) (hs vs : List Int) : Int → List Mb → List Cm → Int → List Mb → Prop
  | e, ms, [], e3, ms3 => nextR al hs vs e (readyA al e ms) = none ∧ e3 = e ∧ ms3 = readyA al e ms
  | e, ms, x :: l, e3, ms3 => ∃ e2 ms2, nextR al hs vs e (readyA al e ms) = some (x, e2, ms2) ∧ Steps al hs vs e2 ms2 l e3 ms3

theorem Steps.done {al : Nat} {hs vs : List Int} {e : Int} {ms : List Mb} (h : nextR al hs vs e (readyA al e ms) = none) : Steps al hs vs e ms [] e (readyA al e ms) := ⟨h, rfl, rfl⟩

theorem Steps.step {al : Nat} {hs vs : List Int} {e : Int} {ms : List Mb} {x : Cm} {e2 : Int} {ms2 : List Mb} {l : List Cm} {e3 : Int} {ms3 : List Mb} (h : nextR al hs vs e (readyA al e ms) = some (x, e2, ms2)) (t : Steps al hs vs e2 ms2 l e3 ms3) : Steps al hs vs e ms (x :: l) e3 ms3 := ⟨e2, ms2, h, t⟩

end Go.Proofs.YtigojnpjpagfjaaDoor.M
