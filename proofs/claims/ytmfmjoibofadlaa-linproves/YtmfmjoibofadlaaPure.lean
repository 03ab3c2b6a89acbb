/-
  Own text: the plain mathematics of numbers as bytes of seven bits. No program is looked at.
-/
import Derived.WalkKit
import Derived.Laws.BitsAllLaws
namespace Go.Proofs.Ytmfmjoibofadlaa.M
open Go.RowKit

/-- A number's bytes: seven bits each, the lowest first; at most so many and one. -/
def putF : Nat → Nat → List Int
  | 0, m => [(m : Int)]
  | f + 1, m => if m < 128 then [(m : Int)] else ((128 + m % 128 : Nat) : Int) :: putF f (m / 128)

/-- A number's bytes. -/
def putL (m : Nat) : List Int := putF m m

theorem putF_enough : ∀ (f g m : Nat), m ≤ f → m ≤ g → putF f m = putF g m
  | 0, 0, _, _, _ => rfl
  | 0, g + 1, m, h, _ => by
    obtain rfl : m = 0 := by omega
    rfl
  | f + 1, 0, m, _, h => by
    obtain rfl : m = 0 := by omega
    rfl
  | f + 1, g + 1, m, h1, h2 => by
    unfold putF
    by_cases h : m < 128
    · rw [if_pos h, if_pos h]
    · rw [if_neg h, if_neg h, putF_enough f g (m / 128) (by omega) (by omega)]

theorem putL_small {m : Nat} (h : m < 128) : putL m = [(m : Int)] := by
  unfold putL
  cases m with
  | zero => rfl
  | succ k => rw [putF, if_pos h]

theorem putL_great {m : Nat} (h : 128 ≤ m) : putL m = ((128 + m % 128 : Nat) : Int) :: putL (m / 128) := by
  unfold putL
  cases m with
  | zero => omega
  | succ k => rw [putF, if_neg (by omega), putF_enough k ((k + 1) / 128) ((k + 1) / 128) (by omega) (Nat.le_refl _)]

theorem putL_len_le : ∀ (j m : Nat), m < 128 ^ (j + 1) → (putL m).length ≤ j + 1
  | 0, m, h => by rw [putL_small (by simpa using h)]; simp
  | j + 1, m, h => by
    by_cases hm : m < 128
    · rw [putL_small hm]; simp
    · rw [putL_great (by omega)]
      have := putL_len_le j (m / 128) (by rw [Nat.pow_succ] at h; exact Nat.div_lt_of_lt_mul (by rw [Nat.mul_comm]; exact h))
      simp only [List.length_cons]; omega

theorem putL_len {m : Nat} (h : m < 18446744073709551616) : (putL m).length ≤ 10 := putL_len_le 9 m (Nat.lt_of_lt_of_le h (by decide))

theorem putL_pos (m : Nat) : 0 < (putL m).length := by
  by_cases hm : m < 128
  · rw [putL_small hm]; simp
  · rw [putL_great (by omega)]; simp

theorem or128_nat : ∀ x, x < 256 → x ||| 128 = 128 + x % 128 := by decide +kernel

theorem or128 (m : Nat) : bits .or .u8 ((m : Int) % 256) 128 = ((128 + m % 128 : Nat) : Int) := by
  rw [u8_or _ _ (by omega) (by omega) (by omega) (by omega)]
  have h := or128_nat (m % 256) (by omega)
  have e : ((m : Int) % 256).toNat = m % 256 := by omega
  rw [e]
  show ((m % 256 ||| 128 : Nat) : Int) = _
  rw [h]
  omega

/-- Each number is a byte's. -/
def By (xs : List Int) : Prop := ∀ x ∈ xs, 0 ≤ x ∧ x < 256

theorem By.nil : By [] := fun _ h => by cases h
theorem By.app {xs ys : List Int} (h : By xs) (k : By ys) : By (xs ++ ys) := fun x hx => (List.mem_append.1 hx).elim (h x) (k x)
theorem By.cons {x : Int} {ys : List Int} (h : 0 ≤ x ∧ x < 256) (k : By ys) : By (x :: ys) := fun y hy => (List.mem_cons.1 hy).elim (fun e => e ▸ h) (k y)

theorem putL_by (m : Nat) : By (putL m) := by
  induction m using Nat.strongRecOn with
  | _ m ih =>
    by_cases hm : m < 128
    · rw [putL_small hm]; exact By.cons (by omega) By.nil
    · rw [putL_great (by omega)]; exact By.cons (by omega) (ih _ (by omega))

/-- The bytes of several numbers, one behind the other. -/
def putAll (l : List Int) : List Int := (l.map fun x => putL x.toNat).flatten

theorem putAll_nil : putAll [] = [] := rfl
theorem putAll_one (x : Int) : putAll [x] = putL x.toNat := by simp [putAll]
theorem putAll_app (a b : List Int) : putAll (a ++ b) = putAll a ++ putAll b := by simp [putAll]

theorem take_snoc {l : List Int} {k : Nat} (h : k < l.length) : l.take (k + 1) = l.take k ++ [l.getD k 0] := by
  rw [List.take_succ_eq_append_getElem h, List.getD_eq_getElem?_getD, List.getElem?_eq_getElem h]
  rfl

theorem putAll_snoc {l : List Int} {k : Nat} (h : k < l.length) : putAll (l.take (k + 1)) = putAll (l.take k) ++ putL (l.getD k 0).toNat := by
  rw [take_snoc h, putAll_app, putAll_one]

/-- Each number is a word's. -/
def Wd (l : List Int) : Prop := ∀ x ∈ l, 0 ≤ x ∧ x < 18446744073709551616

theorem getD_mem {l : List Int} {k : Nat} (h : k < l.length) : l.getD k 0 ∈ l := by
  rw [List.getD_eq_getElem?_getD, List.getElem?_eq_getElem h]
  exact List.getElem_mem h

theorem putAll_len {l : List Int} (h : Wd l) : (putAll l).length ≤ 10 * l.length := by
  induction l with
  | nil => simp [putAll]
  | cons x r ih =>
    have h1 := h x (by simp)
    have h2 := ih (fun y hy => h y (by simp [hy]))
    have h3 := putL_len (m := x.toNat) (by omega)
    simp only [putAll, List.map_cons, List.flatten_cons, List.length_append, List.length_cons] at h2 ⊢
    omega

theorem putAll_by (l : List Int) : By (putAll l) := by
  induction l with
  | nil => exact By.nil
  | cons x r ih => exact By.app (putL_by _) ih

theorem Wd.take {l : List Int} (h : Wd l) (k : Nat) : Wd (l.take k) := fun x hx => h x (List.mem_of_mem_take hx)

end Go.Proofs.Ytmfmjoibofadlaa.M
