/-
  Own text: members site by site in an order of the sites, in plain words.
-/
import Derived.Test.YtdjeafaaclhpkabDoorZNr
import Derived.Test.YtdjeafaaclhpkabDoorZGood
namespace Go.Proofs.YtdjeafaaclhpkabDoor.M

/-- The t-th of three. -/
def oj (o0 o1 o2 : Int) (t : Nat) : Int := if t = 0 then o0 else if t = 1 then o1 else o2

/-- Members of the first t sites of an order. -/
def bSt (ms : List Mb) (o0 o1 o2 : Int) : Nat → List Mb
  | 0 => []
  | t + 1 => bSt ms o0 o1 o2 t ++ ms.filter fun m => m.s == oj o0 o1 o2 t

/-- .. and of the next site those of the first k members. -/
def bSk (ms : List Mb) (o0 o1 o2 : Int) (t k : Nat) : List Mb := bSt ms o0 o1 o2 t ++ (ms.take k).filter fun m => m.s == oj o0 o1 o2 t

theorem bSk_zero (ms : List Mb) (o0 o1 o2 : Int) (t : Nat) : bSk ms o0 o1 o2 t 0 = bSt ms o0 o1 o2 t := by simp [bSk]

theorem bSk_end (ms : List Mb) (o0 o1 o2 : Int) (t k : Nat) (h : ms.length ≤ k) : bSk ms o0 o1 o2 t k = bSk ms o0 o1 o2 (t + 1) 0 := by
  rw [bSk_zero, bSk, List.take_of_length_le h]
  rfl

theorem bSk_step (ms : List Mb) (o0 o1 o2 : Int) (t k : Nat) (h : k < ms.length) : bSk ms o0 o1 o2 t (k + 1) = bSk ms o0 o1 o2 t k ++ (if (ms.getD k .z0).s = oj o0 o1 o2 t then [ms.getD k .z0] else []) := by
  unfold bSk
  rw [List.take_add_one, List.getElem?_eq_getElem h, List.getD_eq_getElem?_getD, List.getElem?_eq_getElem h, List.filter_append, ← List.append_assoc]
  congr 1
  simp only [Option.toList_some, Option.getD_some, List.filter_cons, List.filter_nil]
  by_cases e : ms[k].s = oj o0 o1 o2 t
  · simp [e]
  · simp [e]

theorem bSt_len (ms : List Mb) (o0 o1 o2 : Int) : ∀ t, (bSt ms o0 o1 o2 t).length ≤ t * ms.length
  | 0 => by simp [bSt]
  | t + 1 => by
    have h1 := bSt_len ms o0 o1 o2 t
    have h2 : (ms.filter fun m => m.s == oj o0 o1 o2 t).length ≤ ms.length := List.length_filter_le _ _
    rw [bSt, List.length_append, Nat.succ_mul]
    omega

theorem bSk_len (ms : List Mb) (o0 o1 o2 : Int) (t k : Nat) (ht : t ≤ 3) : (bSk ms o0 o1 o2 t k).length ≤ 4 * ms.length := by
  unfold bSk
  rw [List.length_append]
  have h1 := bSt_len ms o0 o1 o2 t
  have h2 : ((ms.take k).filter fun m => m.s == oj o0 o1 o2 t).length ≤ ms.length := Nat.le_trans (List.length_filter_le _ _) (by rw [List.length_take]; omega)
  have h3 : t * ms.length ≤ 3 * ms.length := Nat.mul_le_mul_right _ ht
  omega

/-- Members, site by site. -/
def bS (ms : List Mb) (o0 o1 o2 : Int) : List Mb := bSk ms o0 o1 o2 3 0

theorem bS_eq (ms : List Mb) (o0 o1 o2 : Int) : bS ms o0 o1 o2 = (ms.filter fun m => m.s == o0) ++ (ms.filter fun m => m.s == o1) ++ ms.filter fun m => m.s == o2 := by
  unfold bS
  rw [bSk_zero]
  rfl

theorem bS_mem {ms : List Mb} {o0 o1 o2 : Int} {m : Mb} (h : m ∈ bS ms o0 o1 o2) : m ∈ ms := by
  rw [bS_eq] at h
  simp only [List.mem_append, List.mem_filter] at h
  rcases h with (h | h) | h
  · exact h.1
  · exact h.1
  · exact h.1

/-- An order of the three sites. -/
def isOrd (o0 o1 o2 : Int) : Prop := (∀ s : Int, 0 ≤ s → s < 3 → (s = o0 ∨ s = o1 ∨ s = o2)) ∧ o0 ≠ o1 ∧ o0 ≠ o2 ∧ o1 ≠ o2

theorem bS_len {o0 o1 o2 : Int} (ho : isOrd o0 o1 o2) : ∀ (ms : List Mb), (∀ m ∈ ms, 0 ≤ m.s ∧ m.s < 3) → (bS ms o0 o1 o2).length = ms.length
  | [], _ => by rw [bS_eq]; rfl
  | m :: l, h => by
    have ih := bS_len ho l fun a ha => h a (List.mem_cons_of_mem _ ha)
    have hm := h m (by simp)
    rw [bS_eq] at ih ⊢
    obtain ⟨h1, h2, h3, h4⟩ := ho
    simp only [List.length_append, List.filter_cons, List.length_cons] at ih ⊢
    rcases h1 m.s hm.1 hm.2 with e | e | e
    · rw [e]
      simp [h2, h3]
      omega
    · rw [e]
      simp [h4, Ne.symm h2]
      omega
    · rw [e]
      simp [Ne.symm h3, Ne.symm h4]
      omega

theorem bS_sorted : ∀ (ms : List Mb), (∀ m ∈ ms, 0 ≤ m.s ∧ m.s < 3) → ms.Pairwise apartM → bS ms 0 1 2 = ms
  | [], _, _ => by rw [bS_eq]; rfl
  | m :: l, h, hp => by
    rw [List.pairwise_cons] at hp
    have ih := bS_sorted l (fun a ha => h a (List.mem_cons_of_mem _ ha)) hp.2
    have hm := h m (by simp)
    have hge : ∀ a ∈ l, m.s ≤ a.s := fun a ha => (hp.1 a ha).2
    rw [bS_eq] at ih ⊢
    have none : ∀ s : Int, s < m.s → (l.filter fun a => a.s == s) = [] := fun s hs => by
      rw [List.filter_eq_nil_iff]
      intro a ha
      have := hge a ha
      simp
      omega
    simp only [List.filter_cons]
    obtain e | e | e : m.s = 0 ∨ m.s = 1 ∨ m.s = 2 := by omega
    · simp only [e]
      simp
      simpa using ih
    · have n0 := none 0 (by omega)
      rw [n0] at ih ⊢
      simp only [e]
      simp
      simpa using ih
    · have n0 := none 0 (by omega)
      have n1 := none 1 (by omega)
      rw [n0, n1] at ih ⊢
      simp only [e]
      simp
      simpa using ih

end Go.Proofs.YtdjeafaaclhpkabDoor.M
