/-
  Own text: the contract of the reference's Check; it is the program's.
-/
import Derived.Test.YtcnkpgbmegppbaaYCheck
namespace Go.Proofs.Ytcnkpgbmegppbaa.M
open Go.ChangeShapes Go.WideShapes Go.ChangeAt Go.RowKit

/-- A member beside those ahead of it: another node than each, of a site not below. -/
def clr (pre : List Mb) (m : Mb) : Bool := pre.all fun q => !(q.n == m.n) && decide (q.s ≤ m.s)

/-- Members behind others, one by one. -/
def goR : List Mb → List Mb → Bool
  | _, [] => true
  | pre, m :: l => isMb m && (clr pre m && goR (pre ++ [m]) l)

/-- How many of the nodes 0 to 5 a set lacks. -/
def lack (X : Nat) : Nat := (List.range 6).countP fun i => !X.testBit i

theorem lack_step (X : Nat) (n : Int) (h0 : 0 ≤ n) (h5 : n < 6) (h : hasN X n = false) : lack (X ||| bitN n) + 1 = lack X := by
  obtain ⟨k, rfl⟩ := Int.eq_ofNat_of_zero_le h0
  have hb : bitN (k : Int) = 2 ^ k := by unfold bitN; rw [if_pos (by omega), Int.toNat_natCast]
  have ht : X.testBit k = false := by
    unfold hasN at h
    rw [decide_eq_true (by omega), Int.toNat_natCast] at h
    simpa using h
  rw [hb]
  have hk : k < 6 := by omega
  unfold lack
  have hr : List.range 6 = [0, 1, 2, 3, 4, 5] := by decide
  rw [hr]
  simp only [List.countP_cons, List.countP_nil, Nat.testBit_or, Nat.testBit_two_pow]
  match k, hk with
  | 0, _ => simp [ht]
  | 1, _ => simp [ht]; omega
  | 2, _ => simp [ht]; omega
  | 3, _ => simp [ht]; omega
  | 4, _ => simp [ht]; omega
  | 5, _ => simp [ht]; omega

theorem isMb_iff (m : Mb) : isMb m = true ↔ 0 ≤ m.n ∧ m.n < 6 ∧ 0 ≤ m.s ∧ m.s < 3 := by
  unfold isMb
  simp [and_assoc]

theorem goC_len : ∀ (X : Nat) (T : Int) (l : List Mb), goC X T l = true → l.length ≤ lack X
  | _, _, [], _ => Nat.zero_le _
  | X, T, m :: l, h => by
    unfold goC at h
    simp only [Bool.and_eq_true, Bool.not_eq_true', decide_eq_true_eq] at h
    obtain ⟨h1, h2, h3, h4⟩ := h
    have hm := (isMb_iff m).1 h1
    have := goC_len _ _ l h4
    have h5 := lack_step X m.n hm.1 hm.2.1 h2
    simp only [List.length_cons]
    omega

theorem hasN_or (X : Nat) (a n : Int) (ha : 0 ≤ a) (h6 : a < 6) (hn : 0 ≤ n) (hn6 : n < 6) : hasN (X ||| bitN a) n = (hasN X n || (a == n)) := by
  obtain ⟨i, rfl⟩ := Int.eq_ofNat_of_zero_le ha
  obtain ⟨j, rfl⟩ := Int.eq_ofNat_of_zero_le hn
  have hb : bitN (i : Int) = 2 ^ i := by unfold bitN; rw [if_pos (by omega), Int.toNat_natCast]
  unfold hasN
  rw [hb, decide_eq_true (by omega), Int.toNat_natCast, Nat.testBit_or, Nat.testBit_two_pow, Bool.true_and, Bool.true_and]
  congr 1
  by_cases h : i = j
  · subst h; simp
  · rw [decide_eq_false h]; simp; omega

/-- What the two ways of asking know of what stands ahead. -/
structure Met (X : Nat) (T : Int) (pre : List Mb) : Prop where
  le : ∀ q ∈ pre, q.s ≤ T
  top : pre = [] ∧ T = 0 ∨ ∃ q ∈ pre, q.s = T
  set : ∀ n : Int, 0 ≤ n → n < 6 → hasN X n = pre.any fun q => q.n == n

theorem goC_eq : ∀ (l : List Mb) (X : Nat) (T : Int) (pre : List Mb), Met X T pre → goC X T l = goR pre l
  | [], _, _, _, _ => rfl
  | m :: l, X, T, pre, hM => by
    unfold goC goR
    cases h1 : isMb m with
    | false => rfl
    | true =>
      have hm := (isMb_iff m).1 h1
      have hs := hM.set m.n hm.1 hm.2.1
      by_cases hc : (!hasN X m.n && decide (T ≤ m.s)) = true
      · simp only [Bool.and_eq_true, Bool.not_eq_true', decide_eq_true_eq] at hc
        have hcl : clr pre m = true := by
          unfold clr
          rw [List.all_eq_true]
          intro q hq
          have h3 : (q.n == m.n) = false := by
            rw [hc.1] at hs
            have := List.any_eq_false.1 hs.symm q hq
            simpa using this
          have h4 := hM.le q hq
          rw [h3, decide_eq_true (by omega)]
          rfl
        rw [hc.1, hcl, decide_eq_true hc.2]
        simp only [Bool.not_false, Bool.true_and]
        refine goC_eq l _ _ _ ⟨fun q hq => ?_, Or.inr ⟨m, by simp, rfl⟩, fun n h5 h6 => ?_⟩
        · rcases List.mem_append.1 hq with h | h
          · have := hM.le q h; omega
          · rw [List.mem_singleton.1 h]; exact Int.le_refl _
        · rw [hasN_or X m.n n hm.1 hm.2.1 h5 h6, hM.set n h5 h6, List.any_append]
          simp
      · have hcl : clr pre m = false := by
          unfold clr
          rw [List.all_eq_false]
          cases hh : hasN X m.n with
          | true =>
            rw [hh] at hs
            obtain ⟨q, hq, he⟩ := List.any_eq_true.1 hs.symm
            exact ⟨q, hq, by rw [he]; simp⟩
          | false =>
            rw [hh] at hc
            simp only [Bool.not_false, Bool.true_and, decide_eq_true_eq] at hc
            rcases hM.top with ⟨rfl, rfl⟩ | ⟨q, hq, he⟩
            · omega
            · exact ⟨q, hq, by rw [decide_eq_false (by omega)]; simp⟩
        rw [hcl]
        cases hh : hasN X m.n with
        | true => rfl
        | false =>
          rw [hh] at hc
          simp only [Bool.not_false, Bool.true_and, decide_eq_true_eq] at hc
          rw [decide_eq_false hc]
          rfl

theorem met0 : Met 0 0 [] := ⟨fun _ h => (by cases h), Or.inl ⟨rfl, rfl⟩, fun n _ _ => by unfold hasN; simp⟩

/-- The reference's answer. -/
def rchk (e : Int) (ms : List Mb) : Bool := decide (1 ≤ e) && (decide (e ≤ 1099511627776) && (decide (ms.length ≤ 6) && (headOk ms && goR [] ms)))

theorem rchk_eq (e : Int) (ms : List Mb) : rchk e ms = chk e ms := by
  unfold rchk chk
  rw [goC_eq ms 0 0 [] met0]
  by_cases h : ms.length ≤ 6
  · rw [decide_eq_true h, Bool.true_and]
  · rw [decide_eq_false h, Bool.false_and]
    have : goR [] ms = false := by
      cases hg : goR [] ms with
      | false => rfl
      | true =>
        rw [← goC_eq ms 0 0 [] met0] at hg
        have := goC_len _ _ _ hg
        have h6 : lack 0 = 6 := by decide
        omega
    rw [this]
    simp

theorem take_snoc_mb {l : List Mb} {k : Nat} (h : k < l.length) : l.take (k + 1) = l.take k ++ [l.getD k .z0] := by
  rw [List.take_succ_eq_append_getElem h, List.getD_eq_getElem?_getD, List.getElem?_eq_getElem h]
  rfl

end Go.Proofs.Ytcnkpgbmegppbaa.M
