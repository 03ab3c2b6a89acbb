/-
  Own text: the plain mathematics of the tag: words of 32 bits, turned, doubled, stirred. No program is looked at.
-/
import Derived.WalkKit
import Derived.Laws.BitsAllLaws
namespace Go.Proofs.YtphdbpljgilcgaaDoor.M
open Go.RowKit

/-- A word turned, bit by bit. -/
def turnN : Nat → Nat → Nat
  | 0, x => x
  | n + 1, x => 2 * turnN n x % 4294967296 + turnN n x / 2147483648

theorem turnN_lt {x : Nat} (hx : x < 4294967296) : ∀ n, turnN n x < 4294967296
  | 0 => hx
  | n + 1 => by
    have := turnN_lt hx n
    show 2 * turnN n x % 4294967296 + turnN n x / 2147483648 < _
    omega

/-- The same at once. -/
def rotS (n x : Nat) : Nat := x * 2 ^ n % 4294967296 + x / 2 ^ (32 - n)

theorem rotS_step {x : Nat} (hx : x < 4294967296) : ∀ n, n < 16 → rotS (n + 1) x = 2 * rotS n x % 4294967296 + rotS n x / 2147483648 := by
  intro n hn
  have e31 : 2 ^ n * 2 ^ (31 - n) = 2147483648 := by rw [← Nat.pow_add, show n + (31 - n) = 31 by omega]
  have key : ∀ k, k ≤ 16 → rotS k x = 2 ^ k * (x % 2 ^ (32 - k)) + x / 2 ^ (32 - k) := by
    intro k hk
    unfold rotS
    have e : 4294967296 = 2 ^ k * 2 ^ (32 - k) := by rw [← Nat.pow_add, show k + (32 - k) = 32 by omega]
    rw [e, Nat.mul_comm x, Nat.mul_mod_mul_left]
  rw [key n (by omega), key (n + 1) (by omega), show 32 - (n + 1) = 31 - n by omega, show 32 - n = (31 - n) + 1 by omega, Nat.pow_succ 2 (31 - n), Nat.pow_succ 2 n]
  have hP : 0 < 2 ^ (31 - n) := Nat.pow_pos (by decide)
  have hhi : x / (2 ^ (31 - n) * 2) < 2 ^ n := by
    apply Nat.div_lt_of_lt_mul
    rw [Nat.mul_comm (2 ^ (31 - n)), Nat.mul_assoc, Nat.mul_comm (2 ^ (31 - n)), e31]
    exact hx
  generalize 2 ^ n = Q at *
  generalize 2 ^ (31 - n) = P at *
  have hlo : x % P < P := Nat.mod_lt _ hP
  have h1 : x / (P * 2) = x / P / 2 := (Nat.div_div_eq_div_mul x P 2).symm
  have h2 : x % (P * 2) = x % P + P * (x / P % 2) := Nat.mod_mul
  rw [h1] at hhi ⊢
  rw [h2]
  have h3 : Q * (x % P + P * (x / P % 2)) = Q * (x % P) + 2147483648 * (x / P % 2) := by rw [Nat.mul_add, ← Nat.mul_assoc, e31]
  have h4 : Q * 2 * (x % P) = 2 * (Q * (x % P)) := by rw [Nat.mul_comm Q 2, Nat.mul_assoc]
  rw [h3, h4]
  have h5 : Q * (x % P) + Q ≤ 2147483648 := by
    rw [← e31, ← Nat.mul_succ]
    exact Nat.mul_le_mul_left Q hlo
  generalize Q * (x % P) = A at *
  generalize x / P = q at *
  omega

theorem turnN_eq {x : Nat} (hx : x < 4294967296) : ∀ n, n ≤ 16 → turnN n x = rotS n x
  | 0, _ => by simp only [turnN, rotS, Nat.reducePow]; omega
  | n + 1, h => by
    rw [rotS_step hx n (by omega), ← turnN_eq hx n (by omega)]
    rfl

/-- What the library's rotation gives. -/
theorem turn_or {x : Nat} (hx : x < 4294967296) (n : Nat) (hn : n ≤ 16) : (x * 2 ^ n % 4294967296) ||| (x / 2 ^ (32 - n)) = turnN n x := by
  rw [turnN_eq hx n hn]
  unfold rotS
  have e : 4294967296 = 2 ^ n * 2 ^ (32 - n) := by rw [← Nat.pow_add, show n + (32 - n) = 32 by omega]
  have h1 : x * 2 ^ n % 4294967296 = 2 ^ n * (x % 2 ^ (32 - n)) := by
    rw [e, Nat.mul_comm x, Nat.mul_mod_mul_left]
  have h2 : x / 2 ^ (32 - n) < 2 ^ n := by
    apply Nat.div_lt_of_lt_mul
    rw [← Nat.pow_add, show 32 - n + n = 32 by omega]
    exact hx
  rw [h1, Nat.two_pow_add_eq_or_of_lt h2]

/-- Four words, once stirred. -/
def stir1 (s : Nat × Nat × Nat × Nat) : Nat × Nat × Nat × Nat :=
  let a1 := (s.1 + s.2.1) % 4294967296
  let c1 := (s.2.2.1 + s.2.2.2) % 4294967296
  let b1 := turnN 5 s.2.1 ^^^ a1
  let d1 := turnN 8 s.2.2.2 ^^^ c1
  let a2 := (turnN 16 a1 + d1) % 4294967296
  let c2 := (c1 + b1) % 4294967296
  (a2, turnN 7 b1 ^^^ c2, turnN 16 c2, turnN 13 d1 ^^^ a2)

def stirN : Nat → Nat × Nat × Nat × Nat → Nat × Nat × Nat × Nat
  | 0, s => s
  | n + 1, s => stir1 (stirN n s)

/-- Each is a word. -/
def Qd (s : Nat × Nat × Nat × Nat) : Prop := s.1 < 4294967296 ∧ s.2.1 < 4294967296 ∧ s.2.2.1 < 4294967296 ∧ s.2.2.2 < 4294967296

theorem xor32 {a b : Nat} (ha : a < 4294967296) (hb : b < 4294967296) : a ^^^ b < 4294967296 := Nat.xor_lt_two_pow (n := 32) ha hb
theorem or32 {a b : Nat} (ha : a < 4294967296) (hb : b < 4294967296) : a ||| b < 4294967296 := Nat.or_lt_two_pow (n := 32) ha hb

theorem stir1_lt {s : Nat × Nat × Nat × Nat} (h : Qd s) : Qd (stir1 s) := by
  obtain ⟨_, h2, _, h4⟩ := h
  have m : ∀ z : Nat, z % 4294967296 < 4294967296 := fun z => Nat.mod_lt _ (by decide)
  have hb1 := xor32 (turnN_lt h2 5) (m (s.1 + s.2.1))
  have hd1 := xor32 (turnN_lt h4 8) (m (s.2.2.1 + s.2.2.2))
  exact ⟨m _, xor32 (turnN_lt hb1 7) (m _), turnN_lt (m _) 16, xor32 (turnN_lt hd1 13) (m _)⟩

theorem stirN_lt {s : Nat × Nat × Nat × Nat} (h : Qd s) : ∀ n, Qd (stirN n s)
  | 0 => h
  | n + 1 => stir1_lt (stirN_lt h n)

/-- Four words as one number, doubled; what is lost comes back. -/
def dbl (s : Nat × Nat × Nat × Nat) : Nat × Nat × Nat × Nat :=
  ((2 * s.1 % 4294967296) ^^^ (135 * (s.2.2.2 / 2147483648)), 2 * s.2.1 % 4294967296 + s.1 / 2147483648, 2 * s.2.2.1 % 4294967296 + s.2.1 / 2147483648, 2 * s.2.2.2 % 4294967296 + s.2.2.1 / 2147483648)

theorem dbl_lt {s : Nat × Nat × Nat × Nat} (h : Qd s) : Qd (dbl s) := by
  obtain ⟨h1, h2, h3, h4⟩ := h
  refine ⟨xor32 (Nat.mod_lt _ (by decide)) (by omega), ?_, ?_, ?_⟩ <;> (dsimp only [dbl]; omega)

theorem shl1_or {x y : Nat} (hy : y < 4294967296) : (x * 2 % 4294967296) ||| (y / 2147483648) = 2 * x % 4294967296 + y / 2147483648 := by
  have h1 : x * 2 % 4294967296 = 2 ^ 1 * (x % 2147483648) := by omega
  have h2 : y / 2147483648 < 2 ^ 1 := by omega
  rw [h1, ← Nat.two_pow_add_eq_or_of_lt h2]
  omega

/-- Four words with four others. -/
def xr (s t : Nat × Nat × Nat × Nat) : Nat × Nat × Nat × Nat := (s.1 ^^^ t.1, s.2.1 ^^^ t.2.1, s.2.2.1 ^^^ t.2.2.1, s.2.2.2 ^^^ t.2.2.2)

theorem xr_lt {s t : Nat × Nat × Nat × Nat} (h : Qd s) (k : Qd t) : Qd (xr s t) := ⟨xor32 h.1 k.1, xor32 h.2.1 k.2.1, xor32 h.2.2.1 k.2.2.1, xor32 h.2.2.2 k.2.2.2⟩

/-- Four words as integers. -/
def qI (s : Nat × Nat × Nat × Nat) : List Int := [(s.1 : Int), (s.2.1 : Int), (s.2.2.1 : Int), (s.2.2.2 : Int)]

/-- Four bytes as a word, the lowest first. -/
def wdL (l : List Int) (i : Nat) : Nat := (l.getD i 0).toNat + 256 * (l.getD (i + 1) 0).toNat + 65536 * (l.getD (i + 2) 0).toNat + 16777216 * (l.getD (i + 3) 0).toNat

/-- Sixteen bytes as words. -/
def qW (l : List Int) : Nat × Nat × Nat × Nat := (wdL l 0, wdL l 4, wdL l 8, wdL l 12)

/-- Each number is a byte's. -/
def Byt (xs : List Int) : Prop := ∀ x ∈ xs, 0 ≤ x ∧ x < 256

theorem Byt.get {l : List Int} (h : Byt l) (i : Nat) : 0 ≤ l.getD i 0 ∧ l.getD i 0 < 256 := by
  rw [List.getD_eq_getElem?_getD]
  rcases Nat.lt_or_ge i l.length with hi | hi
  · rw [List.getElem?_eq_getElem hi]
    exact h _ (List.getElem_mem hi)
  · rw [List.getElem?_eq_none hi]
    decide

theorem wdL_lt {l : List Int} (h : Byt l) (i : Nat) : wdL l i < 4294967296 := by
  have h0 := h.get i
  have h1 := h.get (i + 1)
  have h2 := h.get (i + 2)
  have h3 := h.get (i + 3)
  unfold wdL
  omega

theorem qW_lt {l : List Int} (h : Byt l) : Qd (qW l) := ⟨wdL_lt h 0, wdL_lt h 4, wdL_lt h 8, wdL_lt h 12⟩

/-- Four words as sixteen bytes. -/
def qB (s : Nat × Nat × Nat × Nat) : List Int :=
  [((s.1 % 256 : Nat) : Int), ((s.1 / 256 % 256 : Nat) : Int), ((s.1 / 65536 % 256 : Nat) : Int), ((s.1 / 16777216 % 256 : Nat) : Int),
   ((s.2.1 % 256 : Nat) : Int), ((s.2.1 / 256 % 256 : Nat) : Int), ((s.2.1 / 65536 % 256 : Nat) : Int), ((s.2.1 / 16777216 % 256 : Nat) : Int),
   ((s.2.2.1 % 256 : Nat) : Int), ((s.2.2.1 / 256 % 256 : Nat) : Int), ((s.2.2.1 / 65536 % 256 : Nat) : Int), ((s.2.2.1 / 16777216 % 256 : Nat) : Int),
   ((s.2.2.2 % 256 : Nat) : Int), ((s.2.2.2 / 256 % 256 : Nat) : Int), ((s.2.2.2 / 65536 % 256 : Nat) : Int), ((s.2.2.2 / 16777216 % 256 : Nat) : Int)]

theorem qB_len (s : Nat × Nat × Nat × Nat) : (qB s).length = 16 := rfl

theorem qB_by (s : Nat × Nat × Nat × Nat) : Byt (qB s) := by
  intro x hx
  simp only [qB, List.mem_cons, List.not_mem_nil, or_false] at hx
  omega

/-- The blocks ahead of the last one. -/
def absorb (s : Nat × Nat × Nat × Nat) : Nat → List Int → Nat × Nat × Nat × Nat
  | 0, _ => s
  | n + 1, l => absorb (stirN 12 (xr s (qW (l.take 16)))) n (l.drop 16)

/-- How many blocks lie ahead of the last one. -/
def ahead (n : Nat) : Nat := (n - 1) / 16

/-- The last block, filled up. -/
def fillL (l : List Int) : List Int := if l.length < 16 then l ++ [1] ++ List.replicate (15 - l.length) 0 else l

/-- What goes in at the end. -/
def endW (k : Nat × Nat × Nat × Nat) (l : List Int) : Nat × Nat × Nat × Nat := if l.length < 16 then dbl (dbl k) else dbl k

/-- The digest. -/
def digest (key data : List Int) : List Int :=
  let k := qW key
  let r := data.drop (16 * ahead data.length)
  qB (xr (stirN 12 (xr (xr (absorb k (ahead data.length) data) (qW (fillL r))) (endW k r))) (endW k r))

end Go.Proofs.YtphdbpljgilcgaaDoor.M
