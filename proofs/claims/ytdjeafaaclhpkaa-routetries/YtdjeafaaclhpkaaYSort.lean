/-
  Own text: members sorted by sites: contracts of cmp.Compare, of First's comparison, of the library's insertion sort.
-/
import Derived.Test.YtdjeafaaclhpkaaYRow
import Derived.Lib.QuietBelow
import Derived.BigRegion
namespace Go.Proofs.Ytdjeafaaclhpkaa.M
open Go.ChangeShapes Go.WideShapes Go.ChangeAt Go.RowKit

set_option maxRecDepth 20000 in
theorem isNaN_any (x : Int) (w : World) : Calls Try.prog 57 #[.int .i64 x] w fun e w' => e = .returned (.bool false) ∧ w' = w := by
  go_enter Try.func57, Try.ntmps57
  go_wp2
  go_ret
  exact ⟨rfl, rfl⟩

/-- What a comparison tells. -/
def cmpI (x y : Int) : Int := if x < y then -1 else if y < x then 1 else 0

set_option maxRecDepth 20000 in
theorem compare_any (x y : Int) (w : World) : Calls Try.prog 54 #[.int .i64 x, .int .i64 y] w fun e w' => e = .returned (.int .i64 (cmpI x y)) ∧ w' = w := by
  have hx := fun W => isNaN_any x W
  have hy := fun W => isNaN_any y W
  have HC : Hid (cmpI x y = if x < y then -1 else if y < x then 1 else 0) := rfl
  generalize cmpI x y = z at *
  go_enter Try.func54, Try.ntmps54
  go_wp2_with fail
  refine (hx _).mono ?_
  rintro r w1 ⟨rfl, rfl⟩
  go_wp2_with fail
  refine (hy _).mono ?_
  rintro r w2 ⟨rfl, rfl⟩
  by_cases h1 : x < y
  · have HN : Hid (z = -1) := by unfold Hid; rw [HC.out, if_pos h1]
    clear HC
    go_wp2_with fail
    go_ret
    exact ⟨ret_int HN.out.symm, rfl⟩
  · by_cases h2 : y < x
    · have HN : Hid (z = 1) := by unfold Hid; rw [HC.out, if_neg h1, if_pos h2]
      clear HC
      go_wp2_with fail
      go_ret
      exact ⟨ret_int HN.out.symm, rfl⟩
    · have HN : Hid (z = 0) := by unfold Hid; rw [HC.out, if_neg h1, if_neg h2]
      clear HC
      go_wp2_with fail
      go_ret
      exact ⟨ret_int HN.out.symm, rfl⟩

/-- All that lay in w, but for block g, lies as it did. -/
structure Ex (g : Nat) (w w' : World) : Prop where
  os : w'.os = w.os
  tape : w'.tape = w.tape
  output : w'.output = w.output
  size : w.heap.size ≤ w'.heap.size
  block : ∀ k, k < w.heap.size → k ≠ g → w'.heap[k]? = w.heap[k]?

theorem Ex.refl (g : Nat) (w : World) : Ex g w w := ⟨rfl, rfl, rfl, Nat.le_refl _, fun _ _ _ => rfl⟩

theorem Ex.trans {g : Nat} {a b c : World} (h : Ex g a b) (k : Ex g b c) : Ex g a c :=
  ⟨k.os.trans h.os, k.tape.trans h.tape, k.output.trans h.output, Nat.le_trans h.size k.size, fun i hi hg => (k.block i (Nat.lt_of_lt_of_le hi h.size) hg).trans (h.block i hi hg)⟩

theorem Ex.of_below {g : Nat} {w w' : World} (h : Below w.heap.size w w') : Ex g w w' := ⟨h.os, h.tape, h.output, h.size, fun k hk _ => h.block k hk⟩

theorem Ex.drew {g : Nat} {w w' : World} (h : Ex g w w') : Ex g w w'.drew := ⟨h.os, h.tape, h.output, h.size, h.block⟩

theorem Ex.drewN {g : Nat} {w w' : World} (h : Ex g w w') (n : Nat) : Ex g w (w'.drewN n) := ⟨h.os, h.tape, h.output, h.size, h.block⟩

theorem Ex.setCell {g : Nat} {w w' : World} (h : Ex g w w') (j : Nat) (v : Value) : Ex g w (w'.setCell ⟨g, j, none⟩ v) := by
  refine ⟨h.os, h.tape, h.output, by simpa using h.size, fun k hk hg => ?_⟩
  rw [← h.block k hk hg]
  simp only [World.setCell, Array.getElem?_modify]
  rw [if_neg (fun e => hg e.symm)]

theorem Ex.setC {g : Nat} {w : World} : ∀ (vs : List Value) (o : Nat) (w' : World), Ex g w w' → Ex g w (w'.setCells g o vs)
  | [], _, _, h => h
  | v :: r, o, w', h => by rw [World.setCells]; exact Ex.setC r _ _ (h.setCell o v)

theorem Ex.below {g B : Nat} {w w' : World} (h : Ex g w w') (hB : B ≤ g) (hg : g < w.heap.size) : Below B w w' :=
  ⟨h.os, h.tape, h.output, h.size, fun k hk => h.block k (by omega) (by omega)⟩

/-- Two neighbours change places. -/
def swp (L : List Mb) (j : Nat) : List Mb := (L.set (j + 1) (L.getD j .z0)).set j (L.getD (j + 1) .z0)

theorem swp_len (L : List Mb) (j : Nat) : (swp L j).length = L.length := by simp [swp]

/-- One member goes ahead as long as its site is below that of the one ahead, down to a. -/
def innS (a : Nat) : Nat → List Mb → List Mb
  | 0, L => L
  | j + 1, L => if a < j + 1 ∧ (L.getD (j + 1) .z0).s < (L.getD j .z0).s then innS a j (swp L j) else L

theorem innS_len (a : Nat) : ∀ (j : Nat) (L : List Mb), (innS a j L).length = L.length
  | 0, _ => rfl
  | j + 1, L => by
    unfold innS
    split
    · rw [innS_len a j, swp_len]
    · rfl

/-- So many members, from the i-th on, each go ahead. -/
def outS (a : Nat) : Nat → Nat → List Mb → List Mb
  | 0, _, L => L
  | k + 1, i, L => outS a k (i + 1) (innS a i L)

theorem outS_len (a : Nat) : ∀ (k i : Nat) (L : List Mb), (outS a k i L).length = L.length
  | 0, _, _ => rfl
  | k + 1, i, L => by
    unfold outS
    rw [outS_len a k, innS_len]

end Go.Proofs.Ytdjeafaaclhpkaa.M
