/-
  Own text: what Ready makes of a chain's sets, and where its head is, in plain words.
-/
import Derived.Test.YtnhdfojbffaifaaYFolP
import Derived.Test.YtnhdfojbffaifaaYPop
namespace Go.Proofs.Ytnhdfojbffaifaa.M
open Go.ChangeShapes Go.WideShapes Go.ChangeAt Go.RowKit

theorem thN_nodes : ∀ (l l' : List Mb) (x : Nat), l.map (·.n) = l'.map (·.n) → thN (fun _ => true) x l = thN (fun _ => true) x l'
  | [], [], _, _ => rfl
  | [], _ :: _, _, h => by cases h
  | _ :: _, [], _, h => by cases h
  | m :: l, m' :: l', x, h => by
    simp only [List.map_cons, List.cons.injEq] at h
    rw [thN_cons, thN_cons, h.1]
    exact thN_nodes l l' _ h.2

theorem set_nodes (f : Bool) : ∀ (l : List Mb) (i : Nat), (l.set i { l.getD i .z0 with f := f }).map (·.n) = l.map (·.n)
  | [], _ => rfl
  | a :: l, 0 => rfl
  | a :: l, i + 1 => by
    rw [List.set_cons_succ, List.map_cons, List.map_cons]
    exact congrArg _ (set_nodes f l i)

theorem pop_one : ∀ k, k < 6 → pop (2 ^ k) = 1 := by decide +kernel

theorem ready_sets {ms : List Mb} {i : Nat} (h : goodM ms) (hi : i < ms.length) (hf : (ms.getD i .z0).f = true) :
    thN (fun _ => true) 0 (ms.set i { ms.getD i .z0 with f := false }) = thN (fun _ => true) 0 ms ∧
    pop (thN (fun m => !m.f) 0 (ms.set i { ms.getD i .z0 with f := false }) &&& (18446744073709551615 - thN (fun m => !m.f) 0 ms)) = 1 := by
  refine ⟨thN_nodes _ _ _ (set_nodes false ms i), ?_⟩
  have hmem : ms.getD i .z0 ∈ ms := by
    rw [List.getD_eq_getElem?_getD, List.getElem?_eq_getElem hi]
    exact List.getElem_mem hi
  have hmb := (isMb_iff _).1 (h.1 _ hmem)
  obtain ⟨k, hk⟩ : ∃ k : Nat, (ms.getD i .z0).n = (k : Int) := ⟨_, (Int.toNat_of_nonneg hmb.1).symm⟩
  have hk6 : k < 6 := by omega
  have hno : ∀ m ∈ ms, m.f = false → m.n ≠ (k : Int) := by
    intro m hm hmf e
    obtain ⟨j, hj, rfl⟩ := List.getElem_of_mem hm
    have hgi : ms.getD i .z0 = ms[i] := by rw [List.getD_eq_getElem?_getD, List.getElem?_eq_getElem hi]; rfl
    rw [hgi] at hk hf
    have hp := List.pairwise_iff_getElem.1 h.2
    rcases Nat.lt_trichotomy i j with hij | rfl | hij
    · exact (hp i j hi hj hij).1 (by rw [hk, e])
    · rw [hmf] at hf; cases hf
    · exact (hp j i hj hi hij).1 (by rw [hk, e])
  have key : thN (fun m => !m.f) 0 (ms.set i { ms.getD i .z0 with f := false }) &&& (18446744073709551615 - thN (fun m => !m.f) 0 ms) = 2 ^ k := by
    apply Nat.eq_of_testBit_eq
    intro j
    have hy : thN (fun m => !m.f) 0 ms < 18446744073709551616 := thN_lt _ _ _ (by decide)
    rw [Nat.testBit_and, show 18446744073709551615 - thN (fun m => !m.f) 0 ms = 2 ^ 64 - (thN (fun m => !m.f) 0 ms + 1) by omega, Nat.testBit_two_pow_sub_succ (by simpa using hy), Nat.testBit_two_pow]
    by_cases hj : j < 64
    · rw [decide_eq_true hj, Bool.true_and, thN_test _ j hj, thN_test _ j hj, Nat.zero_testBit, Bool.false_or, Bool.false_or]
      by_cases hjk : k = j
      · subst hjk
        rw [decide_eq_true rfl]
        have e1 : ((ms.set i { ms.getD i .z0 with f := false }).any fun m => !m.f && m.n == (k : Int)) = true :=
          List.any_eq_true.2 ⟨{ ms.getD i .z0 with f := false }, List.mem_iff_getElem.2 ⟨i, by rw [List.length_set]; exact hi, by rw [List.getElem_set_self]⟩, by show (!false && (ms.getD i .z0).n == (k : Int)) = true; rw [hk]; simp⟩
        have e2 : (ms.any fun m => !m.f && m.n == (k : Int)) = false := by
          rw [List.any_eq_false]
          intro m hm
          cases hmf : m.f with
          | true => simp
          | false => simpa using hno m hm hmf
        rw [e1, e2]
        rfl
      · rw [decide_eq_false hjk]
        cases e2 : (ms.any fun m => !m.f && m.n == (j : Int)) with
        | true => simp
        | false =>
          have e1 : ((ms.set i { ms.getD i .z0 with f := false }).any fun m => !m.f && m.n == (j : Int)) = false := by
            rw [List.any_eq_false] at e2 ⊢
            intro m hm
            rcases List.mem_or_eq_of_mem_set hm with h1 | rfl
            · exact e2 m h1
            · simp only [hk]
              simp
              omega
          rw [e1]
          rfl
    · rw [decide_eq_false hj, decide_eq_false (show ¬ k = j by omega)]
      simp
  rw [key]
  exact pop_one k hk6

theorem head_whole {e : Int} {ms : List Mb} (hc : chk e ms = true) : hasN (thN (fun m => !m.f) 0 ms) (ms.getD 0 .z0).n = true := by
  obtain ⟨_, _, c3, c4⟩ := (chk_iff e ms).1 hc
  match ms, c3, c4 with
  | m :: l, c3, c4 =>
    have hm : isMb m = true := c4.1 m (by simp)
    have hb := (isMb_iff m).1 hm
    show hasN _ m.n = true
    rw [hasN_set (by omega) (by omega)]
    exact List.any_eq_true.2 ⟨m, by simp, by simpa [headOk] using c3⟩

end Go.Proofs.Ytnhdfojbffaifaa.M
