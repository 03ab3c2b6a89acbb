/-
  Own text: what a change makes of a chain follows it, in plain words.
-/
import Derived.Test.YtnhdfojbffaifaaYFol
import Derived.Test.YtnhdfojbffaifaaYRefS
namespace Go.Proofs.Ytnhdfojbffaifaa.M
open Go.ChangeShapes Go.WideShapes Go.ChangeAt Go.RowKit

theorem but_zero {x y : Nat} (hy : y < 18446744073709551616) (h : ∀ j, j < 64 → x.testBit j = true → y.testBit j = true) : x &&& (18446744073709551615 - y) = 0 := by
  apply Nat.eq_of_testBit_eq
  intro j
  rw [Nat.zero_testBit, Nat.testBit_and, show 18446744073709551615 - y = 2 ^ 64 - (y + 1) by omega, Nat.testBit_two_pow_sub_succ (by simpa using hy)]
  by_cases hj : j < 64
  · rw [decide_eq_true hj]
    cases hh : x.testBit j with
    | false => rfl
    | true => rw [h j hj hh]; rfl
  · rw [decide_eq_false hj]
    simp

theorem hasN_set {pr : Mb → Bool} {ms : List Mb} {n : Int} (h0 : 0 ≤ n) (h6 : n < 6) : hasN (thN pr 0 ms) n = ms.any fun m => pr m && m.n == n := by
  unfold hasN
  rw [decide_eq_true (by omega), Bool.true_and, thN_test pr n.toNat (by omega), Nat.zero_testBit, Bool.false_or, Int.toNat_of_nonneg h0]

theorem whole_in {ms ms' : List Mb} (h : ∀ m' ∈ ms', m'.f = false → ∃ m ∈ ms, m.n = m'.n) : thN (fun m => !m.f) 0 ms' &&& (18446744073709551615 - thN (fun _ => true) 0 ms) = 0 := by
  refine but_zero (thN_lt _ _ _ (by decide)) fun j hj hx => ?_
  rw [thN_test _ j hj, Nat.zero_testBit, Bool.false_or, List.any_eq_true] at hx ⊢
  obtain ⟨m', h1, h2⟩ := hx
  simp only [Bool.and_eq_true, Bool.not_eq_true', beq_iff_eq] at h2
  obtain ⟨m, h3, h4⟩ := h m' h1 h2.1
  exact ⟨m, h3, by simp [h4, h2.2]⟩

theorem rowL_both {ms ms' : List Mb} (h1 : goodM ms) (h2 : goodM ms') : rowL (thN (fun _ => true) 0 ms &&& thN (fun _ => true) 0 ms') ms = (ms.filter fun m => ms'.any fun a => a.n == m.n).map (·.n) ∧
    rowL (thN (fun _ => true) 0 ms &&& thN (fun _ => true) 0 ms') ms' = (ms'.filter fun m => ms.any fun a => a.n == m.n).map (·.n) := by
  have hand : ∀ n : Int, hasN (thN (fun _ => true) 0 ms &&& thN (fun _ => true) 0 ms') n = (hasN (thN (fun _ => true) 0 ms) n && hasN (thN (fun _ => true) 0 ms') n) := by
    intro n
    unfold hasN
    rw [Nat.testBit_and]
    cases decide (0 ≤ n ∧ n < 64) <;> simp
  unfold rowL
  constructor
  · congr 1
    refine List.filter_congr fun m hm => ?_
    have hb := (isMb_iff m).1 (h1.1 m hm)
    rw [hand, hasN_set (by omega) (by omega), hasN_set (by omega) (by omega)]
    have : (ms.any fun a => true && a.n == m.n) = true := List.any_eq_true.2 ⟨m, hm, by simp⟩
    rw [this]
    simp
  · congr 1
    refine List.filter_congr fun m hm => ?_
    have hb := (isMb_iff m).1 (h2.1 m hm)
    rw [hand, hasN_set (by omega) (by omega), hasN_set (by omega) (by omega)]
    have : (ms'.any fun a => true && a.n == m.n) = true := List.any_eq_true.2 ⟨m, hm, by simp⟩
    rw [this]
    simp

theorem any_self {ms : List Mb} {m : Mb} (h : m ∈ ms) : (ms.any fun a => a.n == m.n) = true := List.any_eq_true.2 ⟨m, h, by simp⟩

/-- Of members with nodes of their own each, those whose node is in a part of them are that part. -/
theorem filter_part : ∀ {l ms : List Mb}, l.Sublist ms → ms.Pairwise apartM → (ms.filter fun m => l.any fun a => a.n == m.n) = l
  | _, _, .slnil, _ => rfl
  | l, _, .cons (l₂ := ms) m hs, hp => by
    obtain ⟨h1, h2⟩ := List.pairwise_cons.1 hp
    have hno : (l.any fun a => a.n == m.n) = false := by
      rw [List.any_eq_false]
      intro a ha
      have := (h1 a (hs.subset ha)).1
      simp only [beq_iff_eq]
      exact fun e => this e.symm
    rw [List.filter_cons_of_neg (by rw [hno]; decide)]
    exact filter_part hs h2
  | _, _, .cons_cons (l₁ := l) (l₂ := ms) m hs, hp => by
    obtain ⟨h1, h2⟩ := List.pairwise_cons.1 hp
    rw [List.filter_cons_of_pos (by simp)]
    congr 1
    refine (List.filter_congr (q := fun m => l.any fun a => a.n == m.n) fun a ha => ?_).trans (filter_part hs h2)
    have := (h1 a ha).1
    rw [List.any_cons, show (m.n == a.n) = false by simpa using this, Bool.false_or]

theorem part_follows {l ms : List Mb} (hs : l.Sublist ms) (h : goodM ms) : Hid (thN (fun m => !m.f) 0 l &&& (18446744073709551615 - thN (fun _ => true) 0 ms) = 0) ∧
    Hid (rowL (thN (fun _ => true) 0 ms &&& thN (fun _ => true) 0 l) ms = rowL (thN (fun _ => true) 0 ms &&& thN (fun _ => true) 0 l) l) := by
  refine ⟨whole_in fun m hm _ => ⟨m, hs.subset hm, rfl⟩, ?_⟩
  unfold Hid
  rw [(rowL_both h (h.sub hs)).1, (rowL_both h (h.sub hs)).2, filter_part hs h.2]
  congr 1
  exact (List.filter_eq_self.2 fun m hm => any_self (hs.subset hm)).symm

theorem join_follows {ms : List Mb} {m : Mb} (h : goodM ms) (h2 : goodM (insM ms (behN m.s ms) ⟨m.n, m.s, true⟩)) (hn : ∀ a ∈ ms, a.n ≠ m.n) : Hid (thN (fun m => !m.f) 0 (insM ms (behN m.s ms) ⟨m.n, m.s, true⟩) &&& (18446744073709551615 - thN (fun _ => true) 0 ms) = 0) ∧
    Hid (rowL (thN (fun _ => true) 0 ms &&& thN (fun _ => true) 0 (insM ms (behN m.s ms) ⟨m.n, m.s, true⟩)) ms = rowL (thN (fun _ => true) 0 ms &&& thN (fun _ => true) 0 (insM ms (behN m.s ms) ⟨m.n, m.s, true⟩)) (insM ms (behN m.s ms) ⟨m.n, m.s, true⟩)) := by
  have hmem : ∀ a, a ∈ insM ms (behN m.s ms) ⟨m.n, m.s, true⟩ → a ∈ ms ∨ a = ⟨m.n, m.s, true⟩ := by
    intro a ha
    unfold insM at ha
    rcases List.mem_append.1 ha with h1 | h1
    · exact Or.inl (List.mem_of_mem_take h1)
    · rcases List.mem_cons.1 h1 with h1 | h1
      · exact Or.inr h1
      · exact Or.inl (List.mem_of_mem_drop h1)
  have hsub : ∀ a ∈ ms, a ∈ insM ms (behN m.s ms) ⟨m.n, m.s, true⟩ := by
    intro a ha
    rw [← List.take_append_drop (behN m.s ms) ms] at ha
    unfold insM
    rcases List.mem_append.1 ha with h1 | h1
    · exact List.mem_append_left _ h1
    · exact List.mem_append_right _ (List.mem_cons_of_mem _ h1)
  refine ⟨whole_in fun a ha hf => ?_, ?_⟩
  · rcases hmem a ha with h1 | rfl
    · exact ⟨a, h1, rfl⟩
    · cases hf
  · unfold Hid
    rw [(rowL_both h h2).1, (rowL_both h h2).2]
    congr 1
    rw [List.filter_eq_self.2 fun a ha => any_self (hsub a ha)]
    unfold insM
    rw [List.filter_append, List.filter_cons_of_neg (by
      simp only [Bool.not_eq_true, List.any_eq_false, beq_iff_eq]
      exact fun a ha => hn a ha), ← List.filter_append, List.take_append_drop]
    exact (List.filter_eq_self.2 fun a ha => any_self ha).symm

end Go.Proofs.Ytnhdfojbffaifaa.M
