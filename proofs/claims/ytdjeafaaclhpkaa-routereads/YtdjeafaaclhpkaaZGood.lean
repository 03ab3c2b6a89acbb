/-
  Own text: a chain that may be, in plain words; it has at most six members.
-/
import Derived.Test.YtdjeafaaclhpkaaYRefC
namespace Go.Proofs.Ytdjeafaaclhpkaa.M

/-- Two members of one chain, the first ahead of the second. -/
def apartM (a b : Mb) : Prop := a.n ≠ b.n ∧ a.s ≤ b.s

theorem goC_iff : ∀ (l : List Mb) (x : Nat) (t : Int), goC x t l = true ↔ (∀ m ∈ l, isMb m = true ∧ hasN x m.n = false ∧ t ≤ m.s) ∧ l.Pairwise apartM
  | [], x, t => by simp [goC]
  | m :: l, x, t => by
    unfold goC
    simp only [Bool.and_eq_true, Bool.not_eq_true', decide_eq_true_eq, List.pairwise_cons, List.forall_mem_cons, goC_iff l]
    constructor
    · rintro ⟨hm, hx, ht, h1, h2⟩
      have hmb := (isMb_iff m).1 hm
      refine ⟨⟨⟨hm, hx, ht⟩, fun a ha => ?_⟩, fun a ha => ?_, h2⟩
      · obtain ⟨k1, k2, k3⟩ := h1 a ha
        have ka := (isMb_iff a).1 k1
        rw [hasN_or x m.n a.n (by omega) (by omega) (by omega) (by omega)] at k2
        simp only [Bool.or_eq_false_iff] at k2
        exact ⟨k1, k2.1, by omega⟩
      · obtain ⟨k1, k2, k3⟩ := h1 a ha
        have ka := (isMb_iff a).1 k1
        rw [hasN_or x m.n a.n (by omega) (by omega) (by omega) (by omega)] at k2
        simp only [Bool.or_eq_false_iff, beq_eq_false_iff_ne] at k2
        exact ⟨k2.2, k3⟩
    · rintro ⟨⟨⟨hm, hx, ht⟩, h1⟩, h3, h2⟩
      have hmb := (isMb_iff m).1 hm
      refine ⟨hm, hx, ht, fun a ha => ?_, h2⟩
      obtain ⟨k1, k2, k3⟩ := h1 a ha
      have ka := (isMb_iff a).1 k1
      refine ⟨k1, ?_, (h3 a ha).2⟩
      rw [hasN_or x m.n a.n (by omega) (by omega) (by omega) (by omega), k2]
      simpa using (h3 a ha).1

theorem hasN_zero (n : Int) : hasN 0 n = false := by unfold hasN; simp

/-- What a chain's members are. -/
def goodM (ms : List Mb) : Prop := (∀ m ∈ ms, isMb m = true) ∧ ms.Pairwise apartM

theorem goC_good (ms : List Mb) : goC 0 0 ms = true ↔ goodM ms := by
  rw [goC_iff]
  unfold goodM
  constructor
  · rintro ⟨h1, h2⟩
    exact ⟨fun m hm => (h1 m hm).1, h2⟩
  · rintro ⟨h1, h2⟩
    exact ⟨fun m hm => ⟨h1 m hm, hasN_zero _, by have := (isMb_iff m).1 (h1 m hm); omega⟩, h2⟩

theorem chk_iff (e : Int) (ms : List Mb) : chk e ms = true ↔ 1 ≤ e ∧ e ≤ 1099511627776 ∧ headOk ms = true ∧ goodM ms := by
  unfold chk
  simp only [Bool.and_eq_true, decide_eq_true_eq, goC_good]

theorem len_le : ∀ (k : Nat) (l : List Nat), l.Nodup → (∀ x ∈ l, x < k) → l.length ≤ k
  | 0, [], _, _ => Nat.le_refl _
  | 0, a :: l, _, h => absurd (h a (by simp)) (Nat.not_lt_zero _)
  | k + 1, l, hn, h => by
    by_cases hk : k ∈ l
    · have h2 := len_le k (l.erase k) (hn.erase k) fun x hx => by
        have hx2 := (hn.mem_erase_iff).1 hx
        have := h x hx2.2
        have := hx2.1
        omega
      rw [List.length_erase_of_mem hk] at h2
      omega
    · have h2 := len_le k l hn fun x hx => by
        have := h x hx
        have : x ≠ k := fun e => hk (e ▸ hx)
        omega
      omega

theorem goodM.six {ms : List Mb} (h : goodM ms) : ms.length ≤ 6 := by
  have h1 : (ms.map fun m => m.n.toNat).Nodup := by
    rw [List.Nodup, List.pairwise_map]
    refine List.Pairwise.imp_of_mem ?_ h.2
    intro a b ha hb hab e
    have h2 := (isMb_iff a).1 (h.1 a ha)
    have h3 := (isMb_iff b).1 (h.1 b hb)
    have := hab.1
    omega
  have h2 := len_le 6 _ h1 fun x hx => by
    obtain ⟨m, hm, rfl⟩ := List.mem_map.1 hx
    have h2 := (isMb_iff m).1 (h.1 m hm)
    omega
  simpa using h2

theorem chk_good {e : Int} {ms : List Mb} (h : chk e ms = true) : goodM ms := ((chk_iff e ms).1 h).2.2.2

theorem chk_six {e : Int} {ms : List Mb} (h : chk e ms = true) : ms.length ≤ 6 := (chk_good h).six

theorem chk_pos {e : Int} {ms : List Mb} (h : chk e ms = true) : 0 < ms.length := by
  have := ((chk_iff e ms).1 h).2.2.1
  match ms, this with
  | [], h => cases h
  | m :: l, _ => simp

theorem chk_site {e : Int} {ms : List Mb} (h : chk e ms = true) {m : Mb} (hm : m ∈ ms) : ∃ j : Nat, j < 3 ∧ m.s = (j : Int) := by
  have h2 := (isMb_iff m).1 ((chk_good h).1 m hm)
  exact ⟨m.s.toNat, by omega, by omega⟩

end Go.Proofs.Ytdjeafaaclhpkaa.M
