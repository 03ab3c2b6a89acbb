/-
  Own text: members of a chain as plain data, and slices of them that can be read; contracts of mask's small functions and of layout's questions of one member.
-/
import Derived.Test.YtmfmjoibofadlaaRows
import Derived.Test.YtmfmjoibofadlaaMem
import Derived.Deep.QuietTactic
import Derived.BigQuiet
import Derived.WalkSmall
import Derived.WalkSpells
import Derived.Lib.Bytes
namespace Go.Proofs.Ytmfmjoibofadlaa.M
open Go.ChangeShapes Go.WideShapes Go.ChangeAt Go.RowKit

theorem ret_int {k : IntKind} {a b : Int} (h : a = b) : Ending.returned (.int k a) = .returned (.int k b) := by rw [h]

theorem ret_bool {a b : Bool} (h : a = b) : Ending.returned (.bool a) = .returned (.bool b) := by rw [h]

/-- One number as a set. -/
def bitN (n : Int) : Nat := if 0 ≤ n ∧ n < 64 then 2 ^ n.toNat else 0

theorem bitN_lt (n : Int) : bitN n < 18446744073709551616 := by
  unfold bitN
  split
  · next h =>
    have h2 : 2 ^ n.toNat ≤ 2 ^ 63 := Nat.pow_le_pow_right (by decide) (by omega)
    have h3 : (2 : Nat) ^ 63 < 18446744073709551616 := by decide
    omega
  · decide

theorem wrap_pow (n : Nat) (h : n < 64) : IntKind.u64.wrap (2 ^ n) = ((2 ^ n : Nat) : Int) := by
  have h2 : 2 ^ n ≤ 2 ^ 63 := Nat.pow_le_pow_right (by decide) (by omega)
  have h3 : (2 : Nat) ^ 63 < 18446744073709551616 := by decide
  rw [IntKind.wrap_u64, show (2 : Int) ^ n = ((2 ^ n : Nat) : Int) by rw [Int.natCast_pow]; rfl]
  generalize 2 ^ n = y at h2 ⊢
  omega

set_option maxRecDepth 20000 in
theorem bit_any (n : Int) (w : World) : Calls Try.prog 59 #[.int .i64 n] w fun e w' => e = .returned (.int .u64 (bitN n)) ∧ w' = w := by
  by_cases h : 0 ≤ n ∧ n < 64
  · have hb : bitN n = 2 ^ n.toNat := by unfold bitN; rw [if_pos h]
    rw [hb]
    obtain ⟨h1, h2⟩ := h
    obtain ⟨k, rfl⟩ := Int.eq_ofNat_of_zero_le h1
    have hw := wrap_pow k (by omega)
    clear hb
    go_enter Try.func59, Try.ntmps59
    go_wp2
    go_ret
    exact ⟨ret_int (by rw [Int.toNat_natCast, Int.natCast_pow]; rfl), rfl⟩
  · have hb : bitN n = 0 := by unfold bitN; rw [if_neg h]
    rw [hb]
    rcases (show n < 0 ∨ 64 ≤ n by omega) with h1 | h1
    · go_enter Try.func59, Try.ntmps59
      go_wp2
      go_ret
      exact ⟨rfl, rfl⟩
    · go_enter Try.func59, Try.ntmps59
      go_wp2
      go_ret
      exact ⟨rfl, rfl⟩

set_option maxRecDepth 20000 in
theorem with_any (x : Nat) (n : Int) (w : World) (hx : x < 18446744073709551616) : Calls Try.prog 47 #[.int .u64 x, .int .i64 n] w fun e w' => e = .returned (.int .u64 ((x ||| bitN n : Nat) : Int)) ∧ w' = w := by
  have hB := bit_any n w
  have hb := u64_or_nat x (bitN n) hx (bitN_lt n)
  generalize bitN n = z at hB hb ⊢
  go_enter Try.func47, Try.ntmps47
  go_wp2_with fail
  refine hB.mono ?_
  rintro e w1 ⟨rfl, hw⟩
  subst hw
  go_wp2_with fail
  go_ret
  exact ⟨rfl, rfl⟩

/-- Whether a number is in a set. -/
def hasN (x : Nat) (n : Int) : Bool := decide (0 ≤ n ∧ n < 64) && x.testBit n.toNat

theorem has_eq (x : Nat) (n : Int) : (((x &&& bitN n : Nat) : Int) != 0) = hasN x n := by
  unfold bitN hasN
  by_cases h : 0 ≤ n ∧ n < 64
  · rw [if_pos h, decide_eq_true h]
    have e : x &&& 2 ^ n.toNat = if x.testBit n.toNat then 2 ^ n.toNat else 0 := by
      apply Nat.eq_of_testBit_eq
      intro i
      rw [Nat.testBit_and, Nat.testBit_two_pow]
      by_cases hi : n.toNat = i
      · rw [hi]
        cases x.testBit i <;> simp
      · cases x.testBit n.toNat <;> simp [hi]
    rw [e]
    cases x.testBit n.toNat with
    | false => simp
    | true =>
      have h0 : 0 < 2 ^ n.toNat := Nat.pow_pos (by decide)
      rw [if_pos rfl]
      generalize 2 ^ n.toNat = z at h0 ⊢
      simp
      omega
  · rw [if_neg h, decide_eq_false h]
    simp

set_option maxRecDepth 20000 in
theorem has_any (x : Nat) (n : Int) (w : World) (hx : x < 18446744073709551616) : Calls Try.prog 49 #[.int .u64 x, .int .i64 n] w fun e w' => e = .returned (.bool (hasN x n)) ∧ w' = w := by
  have hB := bit_any n w
  have hb := u64_and_nat x (bitN n) hx (bitN_lt n)
  have he := has_eq x n
  generalize hasN x n = hz at he ⊢
  generalize x &&& bitN n = y at hb he
  generalize bitN n = z at hB hb
  have HE : Hid (((y : Int) != 0) = hz) := he
  clear he
  go_enter Try.func49, Try.ntmps49
  go_wp2_with fail
  refine hB.mono ?_
  rintro e w1 ⟨rfl, hw⟩
  subst hw
  go_wp2_with fail
  go_ret
  exact ⟨ret_bool HE.out, rfl⟩

theorem or_lt64 {a b : Nat} (ha : a < 18446744073709551616) (hb : b < 18446744073709551616) : a ||| b < 18446744073709551616 := by
  have := Nat.or_lt_two_pow (n := 64) (show a < 2 ^ 64 by omega) (show b < 2 ^ 64 by omega)
  omega

theorem and_lt64 {a b : Nat} (ha : a < 18446744073709551616) : a &&& b < 18446744073709551616 := Nat.lt_of_le_of_lt Nat.and_le_left ha

set_option maxRecDepth 20000 in
theorem but_any (x y : Nat) (w : World) (hx : x < 18446744073709551616) (hy : y < 18446744073709551616) : Calls Try.prog 50 #[.int .u64 x, .int .u64 y] w fun e w' => e = .returned (.int .u64 ((x &&& (18446744073709551615 - y) : Nat) : Int)) ∧ w' = w := by
  have hb := u64_andNot_nat x y hx hy
  go_enter Try.func50, Try.ntmps50
  go_wp2
  go_ret
  exact ⟨rfl, rfl⟩

/-- A member: its node, its site, whether it is fresh. -/
structure Mb where
  n : Int
  s : Int
  f : Bool

def Mb.z0 : Mb := ⟨0, 0, false⟩

def Mb.tup (m : Mb) : Int × Int × Bool := (m.n, m.s, m.f)

theorem Mb.tup_inj (x y : Mb) (h : x.tup = y.tup) : x = y := by
  obtain ⟨a, b, c⟩ := x
  obtain ⟨a', b', c'⟩ := y
  simp only [Mb.tup, Prod.mk.injEq] at h
  obtain ⟨h0, h1, h2⟩ := h
  subst h0 h1 h2
  rfl

/-- Whether two are the same. -/
def eqM (x y : Mb) : Bool := decide (x.tup = y.tup)

def eqMs (xs ys : List Mb) : Bool := decide (xs.map Mb.tup = ys.map Mb.tup)

theorem eqM_iff (x y : Mb) : eqM x y = true ↔ x = y := ⟨fun h => Mb.tup_inj x y (of_decide_eq_true h), fun h => by subst h; exact decide_eq_true rfl⟩

theorem eqM_self (x : Mb) : eqM x x = true := decide_eq_true rfl

theorem eqM_false {x y : Mb} (h : ¬ x = y) : eqM x y = false := decide_eq_false (fun e => h (Mb.tup_inj x y e))

theorem Mb.map_inj : ∀ (xs ys : List Mb), xs.map Mb.tup = ys.map Mb.tup → xs = ys
  | [], [], _ => rfl
  | [], _ :: _, h => by simp at h
  | _ :: _, [], h => by simp at h
  | x :: xs, y :: ys, h => by
    rw [List.map_cons, List.map_cons] at h
    injection h with h1 h2
    rw [Mb.tup_inj x y h1, Mb.map_inj xs ys h2]

theorem eqMs_iff (xs ys : List Mb) : eqMs xs ys = true ↔ xs = ys := ⟨fun h => Mb.map_inj xs ys (of_decide_eq_true h), fun h => by subst h; exact decide_eq_true rfl⟩

theorem eqMs_self (xs : List Mb) : eqMs xs xs = true := decide_eq_true rfl

theorem eqMs_false {xs ys : List Mb} (h : ¬ xs = ys) : eqMs xs ys = false := decide_eq_false (fun e => h (Mb.map_inj xs ys e))

/-- As the numbers of its kinds. -/
def Mb.ok (m : Mb) : Prop := (-9223372036854775808 ≤ m.n ∧ m.n ≤ 9223372036854775807) ∧ (-9223372036854775808 ≤ m.s ∧ m.s ≤ 9223372036854775807)

/-- A slice of members that can be read. -/
structure RdM (w : World) (p : Option Addr) (n c : Nat) (fs : List Mb) : Prop where
  len : fs.length = n
  cap : n ≤ c
  nil : p = none → c = 0
  cells : 0 < n → ∃ b o, p = some ⟨b, o, none⟩ ∧ ∀ i, i < n → w.cell? ⟨b, o + i * 3, none⟩ = some (.int .i64 (fs.getD i .z0).n) ∧ w.cell? ⟨b, o + i * 3 + 1, none⟩ = some (.int .i64 (fs.getD i .z0).s) ∧ w.cell? ⟨b, o + i * 3 + 2, none⟩ = some (.bool (fs.getD i .z0).f)

theorem RdM.below {w w' : World} {p : Option Addr} {n c : Nat} {fs : List Mb} (h : RdM w p n c fs) (hb : Below w.heap.size w w') : RdM w' p n c fs := by
  refine ⟨h.len, h.cap, h.nil, fun hn => ?_⟩
  obtain ⟨b, o, hp, hc⟩ := h.cells hn
  refine ⟨b, o, hp, fun i hi => ?_⟩
  obtain ⟨h1, h2, h3⟩ := hc i hi
  have hlt := World.block_lt_of_cell? _ _ h1
  exact ⟨by rw [hb.cell (p := ⟨b, o + i * 3, none⟩) hlt]; exact h1, by rw [hb.cell (p := ⟨b, o + i * 3 + 1, none⟩) hlt]; exact h2, by rw [hb.cell (p := ⟨b, o + i * 3 + 2, none⟩) hlt]; exact h3⟩

theorem drop_mb {fs : List Mb} {k : Nat} (h : k < fs.length) : fs.drop k = fs.getD k .z0 :: fs.drop (k + 1) := by
  rw [List.drop_eq_getElem_cons h, List.getD_eq_getElem?_getD, List.getElem?_eq_getElem h]
  rfl

theorem getD_mb {fs : List Mb} {k : Nat} (h : k < fs.length) : fs.getD k .z0 ∈ fs := by
  rw [List.getD_eq_getElem?_getD, List.getElem?_eq_getElem h]
  exact List.getElem_mem h

/-- Whether a member may be. -/
def isMb (m : Mb) : Bool := decide (0 ≤ m.n) && decide (m.n < 6) && decide (0 ≤ m.s) && decide (m.s < 3)

end Go.Proofs.Ytmfmjoibofadlaa.M
