/-
  Own text: contracts of the reference's Near, Cost and Write.
-/
import Derived.Test.YtdjeafaaclhpkabDoorZRead
namespace Go.Proofs.YtdjeafaaclhpkabDoor.M
open Go.ChangeShapes Go.WideShapes Go.ChangeAt Go.RowKit

/-- A member's key: those that are fresh behind all others, else by ways. -/
def keyW (xs : List Int) (i0 : Nat) (m : Mb) : Nat := (if m.f then 1001 else 0) + (wv xs i0 m.s.toNat).toNat

theorem keyW_lt {xs : List Int} (h : inW xs) (i0 : Nat) (m : Mb) : keyW xs i0 m < 2002 := by
  have := h.at i0 m.s.toNat
  unfold keyW
  split <;> omega

theorem byKey_nr {xs : List Int} (h : inW xs) (i0 : Nat) (L : List Mb) : ByKey (nrC xs i0) (keyW xs i0) L := by
  intro a _ b _
  have h1 := h.at i0 a.s.toNat
  have h2 := h.at i0 b.s.toNat
  unfold nrC keyW cmpI
  generalize wv xs i0 a.s.toNat = x at *
  generalize wv xs i0 b.s.toNat = y at *
  cases a.f <;> cases b.f <;> simp
  all_goals (repeat' split) <;> omega

theorem count_succ (key : Mb → Nat) (K : Nat) : ∀ L : List Mb, (L.filter fun m => decide (key m < K + 1)).length = (L.filter fun m => decide (key m < K)).length + (L.filter fun m => key m == K).length
  | [] => rfl
  | m :: l => by
    have ih := count_succ key K l
    simp only [List.filter_cons]
    rcases Nat.lt_trichotomy (key m) K with h | h | h
    · rw [if_pos (by simp; omega), if_pos (by simp; omega), if_neg (by simp; omega)]
      simp only [List.length_cons]
      omega
    · rw [if_pos (by simp; omega), if_neg (by simp; omega), if_pos (by simp; omega)]
      simp only [List.length_cons]
      omega
    · rw [if_neg (by simp; omega), if_neg (by simp; omega), if_neg (by simp; omega)]
      exact ih

theorem bk_len (key : Mb → Nat) (L : List Mb) : ∀ K, (bk key K L).length = (L.filter fun m => decide (key m < K)).length
  | 0 => by
    have : (L.filter fun m => decide (key m < 0)) = [] := by rw [List.filter_eq_nil_iff]; intro a _; simp
    rw [this]
    rfl
  | K + 1 => by rw [bk_succ, List.length_append, bk_len key L K, count_succ]

theorem bk_le (key : Mb → Nat) (K : Nat) (L : List Mb) : (bk key K L).length ≤ L.length := by
  rw [bk_len]
  exact List.length_filter_le _ _

/-- Those of the keys ahead of K, and of key K those of the first k members. -/
def bkU (key : Mb → Nat) (K k : Nat) (L : List Mb) : List Int := (bk key K L ++ (L.take k).filter fun m => key m == K).map (·.n)

theorem bkU_zero (key : Mb → Nat) (K : Nat) (L : List Mb) : bkU key K 0 L = (bk key K L).map (·.n) := by simp [bkU]

theorem bkU_end (key : Mb → Nat) (K k : Nat) (L : List Mb) (h : L.length ≤ k) : bkU key K k L = bkU key (K + 1) 0 L := by
  rw [bkU_zero, bk_succ, bkU, List.take_of_length_le h]

theorem bkU_step (key : Mb → Nat) (K k : Nat) (L : List Mb) (h : k < L.length) : bkU key K (k + 1) L = bkU key K k L ++ (if key (L.getD k .z0) = K then [(L.getD k .z0).n] else []) := by
  unfold bkU
  rw [List.take_add_one, List.getElem?_eq_getElem h, List.getD_eq_getElem?_getD, List.getElem?_eq_getElem h, List.filter_append, ← List.append_assoc, List.map_append]
  congr 1
  simp only [Option.toList_some, Option.getD_some, List.filter_cons, List.filter_nil]
  by_cases e : key L[k] = K
  · simp [e]
  · simp [e]

theorem bkU_len (key : Mb → Nat) (K k : Nat) (L : List Mb) : (bkU key K k L).length ≤ L.length + L.length := by
  unfold bkU
  rw [List.length_map, List.length_append]
  have h1 := bk_le key K L
  have h2 : ((L.take k).filter fun m => key m == K).length ≤ L.length := Nat.le_trans (List.length_filter_le _ _) (by rw [List.length_take]; omega)
  omega

theorem key_cond {xs : List Int} {i0 : Nat} {m : Mb} (h : inW xs) (T mm : Nat) (hT : T < 2) (hm : mm < 1001) : (keyW xs i0 m = 1001 * T + mm) ↔ (m.f = decide (T = 1) ∧ wv xs i0 m.s.toNat = (mm : Int)) := by
  have h1 := h.at i0 m.s.toNat
  unfold keyW
  generalize wv xs i0 m.s.toNat = x at *
  obtain rfl | rfl : T = 0 ∨ T = 1 := by omega
  all_goals cases m.f <;> simp <;> omega

end Go.Proofs.YtdjeafaaclhpkabDoor.M
