/-
  Own text: a chain that may be, in plain words; what a change makes of it may be, too.
-/
import Derived.Test.YtcnkpgbmegppbaaJApp0
namespace Go.Proofs.Ytcnkpgbmegppbaa.M
open Go.ChangeShapes Go.WideShapes Go.ChangeAt Go.RowKit

/-- How many there are ahead of the first member of a site behind. -/
def behN (s : Int) : List Mb → Nat
  | [] => 0
  | m :: l => if s < m.s then 0 else behN s l + 1

theorem behN_ix (s : Int) : ∀ (l : List Mb) (k : Nat), (ixM (fun m => decide (s < m.s)) k l = -1 ∧ behN s l = l.length) ∨ (ixM (fun m => decide (s < m.s)) k l = ((k + behN s l : Nat) : Int) ∧ behN s l < l.length)
  | [], _ => Or.inl ⟨rfl, rfl⟩
  | m :: l, k => by
    unfold ixM behN
    by_cases h : s < m.s
    · rw [if_pos (decide_eq_true h), if_pos h]
      exact Or.inr ⟨by simp, by simp⟩
    · rw [if_neg (by simpa using h), if_neg h]
      rcases behN_ix s l (k + 1) with ⟨h1, h2⟩ | ⟨h1, h2⟩
      · exact Or.inl ⟨h1, by rw [h2]; rfl⟩
      · exact Or.inr ⟨by rw [h1]; omega, by rw [List.length_cons]; omega⟩

theorem behM_N (ms : List Mb) (s : Int) : behM ms s = (behN s ms : Int) := by
  unfold behM
  rcases behN_ix s ms 0 with ⟨h1, h2⟩ | ⟨h1, h2⟩
  · rw [if_pos h1, h2]
  · rw [h1, if_neg (by omega)]; omega

theorem behN_le (s : Int) : ∀ (l : List Mb), behN s l ≤ l.length
  | [] => Nat.le_refl _
  | m :: l => by
    unfold behN
    have := behN_le s l
    split
    · exact Nat.zero_le _
    · rw [List.length_cons]; omega

theorem behN_lt (s : Int) : ∀ (l : List Mb) (k : Nat), k < behN s l → ¬ s < (l.getD k .z0).s
  | [], k, h => absurd h (Nat.not_lt_zero _)
  | m :: l, k, h => by
    unfold behN at h
    by_cases hm : s < m.s
    · rw [if_pos hm] at h
      exact absurd h (Nat.not_lt_zero _)
    · rw [if_neg hm] at h
      cases k with
      | zero => exact hm
      | succ k => exact behN_lt s l k (by omega)

theorem behN_at (s : Int) : ∀ (l : List Mb), behN s l < l.length → s < (l.getD (behN s l) .z0).s
  | [], h => absurd h (Nat.not_lt_zero _)
  | m :: l, h => by
    unfold behN at h ⊢
    by_cases hm : s < m.s
    · rw [if_pos hm]
      exact hm
    · rw [if_neg hm] at h ⊢
      exact behN_at s l (by rw [List.length_cons] at h; omega)

theorem thN_cons (x : Nat) (m : Mb) (l : List Mb) : thN (fun _ => true) x (m :: l) = thN (fun _ => true) (x ||| bitN m.n) l := rfl

theorem hasN_thN (n : Int) (h0 : 0 ≤ n) (h6 : n < 6) : ∀ (l : List Mb) (x : Nat), (∀ m ∈ l, isMb m = true) → hasN (thN (fun _ => true) x l) n = (hasN x n || l.any fun m => m.n == n)
  | [], x, _ => by simp [thN]
  | m :: l, x, hl => by
    have hm := (isMb_iff m).1 (hl m (by simp))
    rw [thN_cons, hasN_thN n h0 h6 l _ (fun q hq => hl q (by simp [hq])), hasN_or x m.n n hm.1 hm.2.1 h0 h6, List.any_cons, Bool.or_assoc]

/-- Two members of one chain, the first ahead of the second. -/
def apartM (a b : Mb) : Prop := a.n ≠ b.n ∧ a.s ≤ b.s

theorem goC_iff : ∀ (l : List Mb) (x : Nat) (t : Int), goC x t l = true ↔ (∀ m ∈ l, isMb m = true ∧ hasN x m.n = false ∧ t ≤ m.s) ∧ l.Pairwise apartM
  | [], x, t => by simp [goC]
  | m :: l, x, t => by
    unfold goC
    simp only [Bool.and_eq_true, Bool.not_eq_true', decide_eq_true_eq, List.pairwise_cons, List.forall_mem_cons, goC_iff l]
    constructor
    · rintro ⟨hm, hx, ht, h1, h2⟩
      have hmb := (isMb_iff m).1 hm
      refine ⟨⟨⟨hm, hx, ht⟩, fun a ha => ?_⟩, fun a ha => ?_, h2⟩
      · obtain ⟨k1, k2, k3⟩ := h1 a ha
        have ka := (isMb_iff a).1 k1
        rw [hasN_or x m.n a.n (by omega) (by omega) (by omega) (by omega)] at k2
        simp only [Bool.or_eq_false_iff] at k2
        exact ⟨k1, k2.1, by omega⟩
      · obtain ⟨k1, k2, k3⟩ := h1 a ha
        have ka := (isMb_iff a).1 k1
        rw [hasN_or x m.n a.n (by omega) (by omega) (by omega) (by omega)] at k2
        simp only [Bool.or_eq_false_iff, beq_eq_false_iff_ne] at k2
        exact ⟨k2.2, k3⟩
    · rintro ⟨⟨⟨hm, hx, ht⟩, h1⟩, h3, h2⟩
      have hmb := (isMb_iff m).1 hm
      refine ⟨hm, hx, ht, fun a ha => ?_, h2⟩
      obtain ⟨k1, k2, k3⟩ := h1 a ha
      have ka := (isMb_iff a).1 k1
      refine ⟨k1, ?_, (h3 a ha).2⟩
      rw [hasN_or x m.n a.n (by omega) (by omega) (by omega) (by omega), k2]
      simpa using (h3 a ha).1

theorem hasN_zero (n : Int) : hasN 0 n = false := by unfold hasN; simp

/-- What a chain's members are. -/
def goodM (ms : List Mb) : Prop := (∀ m ∈ ms, isMb m = true) ∧ ms.Pairwise apartM

theorem goC_good (ms : List Mb) : goC 0 0 ms = true ↔ goodM ms := by
  rw [goC_iff]
  unfold goodM
  constructor
  · rintro ⟨h1, h2⟩
    exact ⟨fun m hm => (h1 m hm).1, h2⟩
  · rintro ⟨h1, h2⟩
    exact ⟨fun m hm => ⟨h1 m hm, hasN_zero _, by have := (isMb_iff m).1 (h1 m hm); omega⟩, h2⟩

theorem chk_iff (e : Int) (ms : List Mb) : chk e ms = true ↔ 1 ≤ e ∧ e ≤ 1099511627776 ∧ headOk ms = true ∧ goodM ms := by
  unfold chk
  simp only [Bool.and_eq_true, decide_eq_true_eq, goC_good]

theorem goodM.sub {l ms : List Mb} (h : goodM ms) (hs : l.Sublist ms) : goodM l := ⟨fun m hm => h.1 m (hs.subset hm), h.2.sublist hs⟩

theorem headOk_drop (l : List Mb) (i : Nat) (hi : i < l.length) (hf : (!(l.getD i .z0).f) = true) : headOk (l.drop i) = true := by
  rw [headOk_get (by rw [List.length_drop]; omega), List.getD_eq_getElem?_getD, List.getElem?_drop, Nat.add_zero, ← List.getD_eq_getElem?_getD]
  exact hf

theorem cut_chk {pr : Mb → Bool} {e e' : Int} {ms ms' : List Mb} (hc : chk e ms = true) (h : cutR pr e ms = .ok (e', ms')) : e' = e + 1 ∧ chk e' ms' = true ∧ ms'.Sublist ms := by
  unfold cutR at h
  rw [hc] at h
  simp only [Bool.true_eq_false, if_false] at h
  split at h
  · cases h
  split at h
  · cases h
  split at h
  · cases h
  rename_i h1 h2 h3
  cases h
  obtain ⟨c1, c2, c3, c4⟩ := (chk_iff e ms).1 hc
  have hsub : ((ms.filter (fun m => !pr m)).drop (ixM (fun m => !m.f) 0 (ms.filter (fun m => !pr m))).toNat).Sublist ms := (List.drop_sublist _ _).trans List.filter_sublist
  refine ⟨rfl, (chk_iff _ _).2 ⟨by omega, by omega, ?_, c4.sub hsub⟩, hsub⟩
  rcases ixM_bounds (fun m => !m.f) (ms.filter (fun m => !pr m)) 0 with hb | hb
  · omega
  · obtain ⟨i, hi⟩ : ∃ i : Nat, ixM (fun m => !m.f) 0 (ms.filter (fun m => !pr m)) = (i : Int) := ⟨_, (Int.toNat_of_nonneg (by omega)).symm⟩
    have hs := ixM_some (fun m => !m.f) (ms.filter (fun m => !pr m)) 0 i (by rw [hi, Nat.zero_add])
    rw [hi, Int.toNat_natCast]
    exact headOk_drop _ _ hs.1 hs.2.1

theorem again_chk {e e' : Int} {ms ms' : List Mb} {node : Int} (hc : chk e ms = true) (h : againR e ms node = .ok (e', ms')) : e' = e + 1 ∧ chk e' ms' = true ∧ ms' = ms := by
  unfold againR at h
  rw [hc] at h
  simp only [Bool.true_eq_false, if_false] at h
  split at h
  · cases h
  split at h
  · cases h
  cases h
  obtain ⟨c1, c2, c3, c4⟩ := (chk_iff e ms).1 hc
  exact ⟨rfl, (chk_iff _ _).2 ⟨by omega, by omega, c3, c4⟩, rfl⟩

/-- A member of which the flag is another. -/
theorem goodM.flag {ms : List Mb} (h : goodM ms) (i : Nat) (f : Bool) : goodM (ms.set i { ms.getD i .z0 with f := f }) := by
  have key : ∀ (l : List Mb) (i : Nat), (l.set i { l.getD i .z0 with f := f }).map (fun m => (m.n, m.s)) = l.map (fun m => (m.n, m.s)) := by
    intro l
    induction l with
    | nil => intro i; rfl
    | cons a l ih =>
      intro i
      cases i with
      | zero => rfl
      | succ i =>
        rw [List.set_cons_succ, List.map_cons, List.map_cons]
        exact congrArg _ (ih i)
  have e := key ms i
  constructor
  · intro m hm
    have h1 : (m.n, m.s) ∈ ms.map (fun m => (m.n, m.s)) := e ▸ List.mem_map_of_mem (f := fun m : Mb => (m.n, m.s)) hm
    obtain ⟨m', h2, h3⟩ := List.mem_map.1 h1
    have e1 : m'.n = m.n := congrArg Prod.fst h3
    have e2 : m'.s = m.s := congrArg Prod.snd h3
    have h4 := (isMb_iff m').1 (h.1 m' h2)
    rw [e1, e2] at h4
    exact (isMb_iff m).2 h4
  · have h1 : (ms.map (fun m : Mb => (m.n, m.s))).Pairwise (fun a b => a.1 ≠ b.1 ∧ a.2 ≤ b.2) := List.pairwise_map.2 h.2
    rw [← e] at h1
    exact (List.pairwise_map (f := fun m : Mb => (m.n, m.s)) (R := fun a b => a.1 ≠ b.1 ∧ a.2 ≤ b.2)).1 h1

theorem ready_chk {e e' : Int} {ms ms' : List Mb} {node : Int} (hc : chk e ms = true) (h : readyR e ms node = .ok (e', ms')) : e' = e ∧ chk e' ms' = true ∧ ∃ i, i < ms.length ∧ (ms.getD i .z0).f = true ∧ ms' = ms.set i { ms.getD i .z0 with f := false } := by
  unfold readyR at h
  rw [hc] at h
  simp only [Bool.true_eq_false, if_false] at h
  split at h
  · cases h
  rename_i hn
  cases h
  obtain ⟨c1, c2, c3, c4⟩ := (chk_iff e ms).1 hc
  have hb := plc_bounds e ms node
  have hlt : (plc e ms node).toNat < ms.length := by omega
  generalize (plc e ms node).toNat = i at *
  have hf : (ms.getD i .z0).f = true := by
    cases hh : (ms.getD i .z0).f with
    | true => rfl
    | false => exact absurd (Or.inr hh) hn
  refine ⟨rfl, (chk_iff _ _).2 ⟨c1, c2, ?_, c4.flag i false⟩, i, hlt, hf, rfl⟩
  cases ms with
  | nil => exact c3
  | cons a l =>
    cases i with
    | zero => rfl
    | succ i => exact c3

/-- A member put in behind those of its site. -/
theorem goodM.ins {ms : List Mb} (h : goodM ms) (m : Mb) (hm : isMb m = true) (hn : ∀ a ∈ ms, a.n ≠ m.n) : goodM (insM ms (behN m.s ms) m) := by
  have hle := behN_le m.s ms
  unfold insM
  constructor
  · intro a ha
    rcases List.mem_append.1 ha with h1 | h1
    · exact h.1 a (List.mem_of_mem_take h1)
    · rcases List.mem_cons.1 h1 with rfl | h1
      · exact hm
      · exact h.1 a (List.mem_of_mem_drop h1)
  · have hp : (ms.take (behN m.s ms) ++ ms.drop (behN m.s ms)).Pairwise apartM := by rw [List.take_append_drop]; exact h.2
    obtain ⟨p1, p2, p3⟩ := List.pairwise_append.1 hp
    refine List.pairwise_append.2 ⟨p1, List.pairwise_cons.2 ⟨fun a ha => ?_, p2⟩, fun a ha b hb => ?_⟩
    · refine ⟨fun e => hn a (List.mem_of_mem_drop ha) e.symm, ?_⟩
      have hlt : behN m.s ms < ms.length := by
        by_cases hh : behN m.s ms < ms.length
        · exact hh
        · rw [List.drop_of_length_le (by omega)] at ha; cases ha
      have hat := behN_at m.s ms hlt
      have hd : ms.drop (behN m.s ms) = ms.getD (behN m.s ms) .z0 :: ms.drop (behN m.s ms + 1) := by
        rw [List.drop_eq_getElem_cons hlt, List.getD_eq_getElem?_getD, List.getElem?_eq_getElem hlt]; rfl
      rw [hd] at ha p2
      rcases List.mem_cons.1 ha with rfl | h1
      · omega
      · have := ((List.pairwise_cons.1 p2).1 a h1).2
        omega
    · rcases List.mem_cons.1 hb with rfl | h1
      · refine ⟨hn a (List.mem_of_mem_take ha), ?_⟩
        obtain ⟨k, hk, rfl⟩ := List.getElem_of_mem ha
        rw [List.length_take] at hk
        have := behN_lt b.s ms k (by omega)
        rw [List.getD_eq_getElem?_getD, List.getElem?_eq_getElem (by omega)] at this
        rw [List.getElem_take]
        simpa using this
      · exact p3 a ha b h1

theorem join_chk {e e' : Int} {ms ms' : List Mb} {m : Mb} (hc : chk e ms = true) (h : joinR e ms m = .ok (e', ms')) : e' = e + 1 ∧ chk e' ms' = true ∧ isMb m = true ∧ (∀ a ∈ ms, a.n ≠ m.n) ∧ ms' = insM ms (behN m.s ms) ⟨m.n, m.s, true⟩ := by
  unfold joinR at h
  rw [hc] at h
  simp only [Bool.true_eq_false, if_false] at h
  split at h
  · cases h
  split at h
  · cases h
  split at h
  · cases h
  split at h
  · cases h
  rename_i h1 h2 h3 h4
  cases h
  rw [behM_N] at h4 ⊢
  rw [Int.toNat_natCast]
  obtain ⟨c1, c2, c3, c4⟩ := (chk_iff e ms).1 hc
  have hm : isMb m = true := by simpa using h1
  have hmb := (isMb_iff m).1 hm
  have hn : ∀ a ∈ ms, a.n ≠ m.n := by
    intro a ha e1
    refine h2 ?_
    rw [hasN_thN m.n (by omega) (by omega) ms 0 c4.1, List.any_eq_true.2 ⟨a, ha, by simp [e1]⟩]
    simp
  refine ⟨rfl, (chk_iff _ _).2 ⟨by omega, by omega, ?_, c4.ins ⟨m.n, m.s, true⟩ ((isMb_iff _).2 hmb) hn⟩, hm, hn, rfl⟩
  unfold insM
  match ms, c3, h4 with
  | a :: l, c3, h4 =>
    have hb0 : behN m.s (a :: l) ≠ 0 := by omega
    obtain ⟨j, hj⟩ : ∃ j, behN m.s (a :: l) = j + 1 := ⟨behN m.s (a :: l) - 1, by omega⟩
    rw [hj]
    exact c3

/-- What comes of a command may be. -/
theorem chR_chk {k nd st e e' : Int} {ms ms' : List Mb} (hc : chk e ms = true) (h : chR k nd st e ms = .ok (e', ms')) : chk e' ms' = true ∧ (e' = e ∨ e' = e + 1) := by
  unfold chR at h
  split at h
  · have := cut_chk hc h; exact ⟨this.2.1, Or.inr this.1⟩
  split at h
  · have := cut_chk hc h; exact ⟨this.2.1, Or.inr this.1⟩
  split at h
  · have := join_chk hc h; exact ⟨this.2.1, Or.inr this.1⟩
  split at h
  · have := again_chk hc h; exact ⟨this.2.1, Or.inr this.1⟩
  · have := ready_chk hc h; exact ⟨this.2.1, Or.inl this.1⟩

/-- A ledger that may be. -/
structure PL.ok (s : PL) : Prop where
  chk : chk s.e s.ms = true
  len : (s.H.length : Int) = s.e
  at0 : 0 ≤ s.at_
  at1 : s.at_ ≤ 1099511627776

theorem PL.ch_ok {s : PL} (h : s.ok) (i : Int) (h0 : 0 ≤ i) (h1 : i ≤ 1099511627776) (k nd st : Int) : (s.ch i (chR k nd st s.e s.ms)).2.ok ∧ (s.ch i (chR k nd st s.e s.ms)).2.at_ = i := by
  match hR : chR k nd st s.e s.ms with
  | .error er => exact ⟨⟨h.chk, h.len, h0, h1⟩, rfl⟩
  | .ok (e', ms') =>
    obtain ⟨g1, g2⟩ := chR_chk h.chk hR
    refine ⟨⟨g1, ?_, h0, h1⟩, rfl⟩
    show ((if s.e < e' then s.H ++ [(e', ms')] else s.H).length : Int) = e'
    have := h.len
    rcases g2 with g2 | g2
    · rw [if_neg (by omega)]; omega
    · rw [if_pos (by omega), List.length_append]; simp; omega

theorem PL.cmd_ok {s : PL} (h : s.ok) (i : Int) (h0 : 0 ≤ i) (h1 : i ≤ 1099511627776) (c : Option (Int × Int × Int × Int)) : (s.cmd i c).2.ok ∧ (s.cmd i c).2.at_ = i := by
  match c with
  | none => exact ⟨⟨h.chk, h.len, h0, h1⟩, rfl⟩
  | some (k, nd, st, ep) =>
    unfold PL.cmd
    dsimp only
    split
    · exact PL.ch_ok h i h0 h1 k nd st
    · exact ⟨⟨h.chk, h.len, h0, h1⟩, rfl⟩

theorem PL.app_ok {s : PL} (h : s.ok) (i : Int) (xs : List Int) : (s.app i xs).2.ok := by
  unfold PL.app
  split
  · next hi =>
    have := h.at0
    split
    · exact ⟨h.chk, h.len, by show 0 ≤ i; omega, hi.2⟩
    · exact (PL.cmd_ok h i (by omega) hi.2 _).1
  · exact h

end Go.Proofs.Ytcnkpgbmegppbaa.M
