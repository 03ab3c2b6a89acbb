/-
  Own text: ways between three sites as nine numbers: which may be, and the direct ones, in plain words.
-/
import Derived.Test.YtdjeafaaclhpkaaMem
namespace Go.Proofs.Ytdjeafaaclhpkaa.M

/-- The way from i to j. -/
def wv (xs : List Int) (i j : Nat) : Int := xs.getD (i * 3 + j) 0

/-- One way may be. -/
def cellOk (xs : List Int) (i j : Nat) : Bool := decide (0 ≤ wv xs i j) && (decide (wv xs i j ≤ 1000) && ((wv xs i j == wv xs j i) && (i != j || wv xs i j == 0)))

/-- All may be. -/
def okW (xs : List Int) : Bool := (List.range 3).all fun i => (List.range 3).all fun j => cellOk xs i j

theorem okW_iff (xs : List Int) : okW xs = true ↔ ∀ i, i < 3 → ∀ j, j < 3 → cellOk xs i j = true := by
  simp only [okW, List.all_eq_true, List.mem_range]

theorem okW_no {xs : List Int} {i j : Nat} (hi : i < 3) (hj : j < 3) (h : cellOk xs i j = false) : okW xs = false := by
  cases hk : okW xs with
  | false => rfl
  | true => rw [(okW_iff xs).1 hk i hi j hj] at h; cases h

/-- Such ways. -/
def wy (x y z : Int) : List Int := [0, x, y, x, 0, z, y, z, 0]

theorem okW_shape {xs : List Int} (h9 : xs.length = 9) (h : okW xs = true) : ∃ x y z : Int, (0 ≤ x ∧ x ≤ 1000) ∧ (0 ≤ y ∧ y ≤ 1000) ∧ (0 ≤ z ∧ z ≤ 1000) ∧ xs = wy x y z := by
  match xs, h9 with
  | [a, b, c, d, e, f, g, h1, i], _ =>
    have k := fun i hi j hj => (okW_iff _).1 h i hi j hj
    have k00 := k 0 (by decide) 0 (by decide)
    have k01 := k 0 (by decide) 1 (by decide)
    have k02 := k 0 (by decide) 2 (by decide)
    have k11 := k 1 (by decide) 1 (by decide)
    have k12 := k 1 (by decide) 2 (by decide)
    have k22 := k 2 (by decide) 2 (by decide)
    simp [cellOk, wv] at k00 k01 k02 k11 k12 k22
    refine ⟨b, c, f, by omega, by omega, by omega, ?_⟩
    unfold wy
    rw [k00.2.2, k11.2.2, k22.2.2, ← k01.2.2, ← k02.2.2, ← k12.2.2]

theorem okW_wy (x y z : Int) (hx : 0 ≤ x ∧ x ≤ 1000) (hy : 0 ≤ y ∧ y ≤ 1000) (hz : 0 ≤ z ∧ z ≤ 1000) : okW (wy x y z) = true := by
  simp [okW, cellOk, wv, wy, List.range, List.range.loop]
  omega

/-- A way over another site, if that is less. -/
def rlx (xs : List Int) (o a b : Nat) : List Int := xs.set (a * 3 + b) (min (wv xs a b) (wv xs a o + wv xs o b))

def rB (o a : Nat) : Nat → List Int → List Int
  | 0, xs => xs
  | b + 1, xs => rlx (rB o a b xs) o a b

def rA (o : Nat) : Nat → List Int → List Int
  | 0, xs => xs
  | a + 1, xs => rB o a 3 (rA o a xs)

def rO : Nat → List Int → List Int
  | 0, xs => xs
  | o + 1, xs => rA o 3 (rO o xs)

/-- The same by the reference: all of the first ways. -/
def qS (xs out : List Int) (i j k : Nat) : List Int := out.set (i * 3 + j) (min (wv out i j) (wv xs i k + wv xs k j))

def qK (xs : List Int) (i j : Nat) : Nat → List Int → List Int
  | 0, out => out
  | k + 1, out => qS xs (qK xs i j k out) i j k

def qJ (xs : List Int) (i : Nat) : Nat → List Int → List Int
  | 0, out => out
  | j + 1, out => qK xs i j 3 (qJ xs i j out)

def qI (xs : List Int) : Nat → List Int → List Int
  | 0, out => out
  | i + 1, out => qJ xs i 3 (qI xs i out)

theorem min_zz (x : Int) (h : 0 ≤ x) : min 0 x = 0 := by omega

/-- The direct ways. -/
def dirs (x y z : Int) : List Int := wy (min x (y + z)) (min y (x + z)) (min z (x + y))

theorem rA0 (x y z : Int) (hx : 0 ≤ x) (hy : 0 ≤ y) : rA 0 3 (wy x y z) = wy x y (min z (x + y)) := by
  simp [rA, rB, rlx, wv, wy]
  omega

theorem rA1 (x y z : Int) (hx : 0 ≤ x) (hz : 0 ≤ z) : rA 1 3 (wy x y z) = wy x (min y (x + z)) z := by
  simp [rA, rB, rlx, wv, wy]
  omega

theorem rA2 (x y z : Int) (hy : 0 ≤ y) (hz : 0 ≤ z) : rA 2 3 (wy x y z) = wy (min x (y + z)) y z := by
  simp [rA, rB, rlx, wv, wy]
  omega

theorem rO_wy (x y z : Int) (hx : 0 ≤ x) (hy : 0 ≤ y) (hz : 0 ≤ z) : rO 3 (wy x y z) = dirs x y z := by
  rw [rO, rO, rO, rO, rA0 x y z hx hy, rA1 x y _ hx (by omega), rA2 x _ _ (by omega) (by omega)]
  unfold dirs wy
  simp
  omega

theorem qI_wy (x y z : Int) (hx : 0 ≤ x) (hy : 0 ≤ y) (hz : 0 ≤ z) : qI (wy x y z) 3 (wy x y z) = dirs x y z := by
  have h0 : qJ (wy x y z) 0 3 (wy x y z) = [0, min x (y + z), min y (x + z), x, 0, z, y, z, 0] := by
    simp [qJ, qK, qS, wv, wy]
    omega
  have h1 : qJ (wy x y z) 1 3 [0, min x (y + z), min y (x + z), x, 0, z, y, z, 0] = [0, min x (y + z), min y (x + z), min x (y + z), 0, min z (x + y), y, z, 0] := by
    simp [qJ, qK, qS, wv, wy]
    omega
  have h2 : qJ (wy x y z) 2 3 [0, min x (y + z), min y (x + z), min x (y + z), 0, min z (x + y), y, z, 0] = dirs x y z := by
    simp [qJ, qK, qS, wv, wy, dirs]
    omega
  rw [qI, qI, qI, qI, h0, h1, h2]

theorem rlx_len (xs : List Int) (o a b : Nat) : (rlx xs o a b).length = xs.length := by simp [rlx]

theorem rB_len (o a : Nat) : ∀ (b : Nat) (xs : List Int), (rB o a b xs).length = xs.length
  | 0, _ => rfl
  | b + 1, xs => by rw [rB, rlx_len, rB_len o a b]

theorem rA_len (o : Nat) : ∀ (a : Nat) (xs : List Int), (rA o a xs).length = xs.length
  | 0, _ => rfl
  | a + 1, xs => by rw [rA, rB_len, rA_len o a]

theorem rO_len : ∀ (o : Nat) (xs : List Int), (rO o xs).length = xs.length
  | 0, _ => rfl
  | o + 1, xs => by rw [rO, rA_len, rO_len o]

/-- All are 0 to 1000. -/
def inW (xs : List Int) : Prop := ∀ i, 0 ≤ xs.getD i 0 ∧ xs.getD i 0 ≤ 1000

theorem inW.at {xs : List Int} (h : inW xs) (i j : Nat) : 0 ≤ wv xs i j ∧ wv xs i j ≤ 1000 := h _

theorem inW.set {xs : List Int} (h : inW xs) (i : Nat) (v : Int) (h0 : 0 ≤ v) (h1 : v ≤ 1000) : inW (xs.set i v) := by
  intro k
  have hk := h k
  rw [List.getD_eq_getElem?_getD, List.getElem?_set]
  split
  · split
    · exact ⟨h0, h1⟩
    · exact ⟨by decide, by decide⟩
  · rw [← List.getD_eq_getElem?_getD]; exact hk

theorem inW.rlx {xs : List Int} (h : inW xs) (o a b : Nat) : inW (rlx xs o a b) := by
  have h1 := h.at a b
  have h2 := h.at a o
  have h3 := h.at o b
  exact h.set _ _ (by omega) (by omega)

theorem inW.qS {xs out : List Int} (h : inW xs) (g : inW out) (i j k : Nat) : inW (qS xs out i j k) := by
  have h1 := g.at i j
  have h2 := h.at i k
  have h3 := h.at k j
  exact g.set _ _ (by omega) (by omega)

theorem inW_wy (x y z : Int) (hx : 0 ≤ x ∧ x ≤ 1000) (hy : 0 ≤ y ∧ y ≤ 1000) (hz : 0 ≤ z ∧ z ≤ 1000) : inW (wy x y z) := by
  intro i
  unfold wy
  match i with
  | 0 | 1 | 2 | 3 | 4 | 5 | 6 | 7 | 8 => simp; try omega
  | n + 9 => simp

end Go.Proofs.Ytdjeafaaclhpkaa.M
