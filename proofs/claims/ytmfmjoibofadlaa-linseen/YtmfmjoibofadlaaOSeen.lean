/-
  Own text: the search of a write that ended, and a read behind it.
-/
import Derived.Test.YtmfmjoibofadlaaOOrd
namespace Go.Proofs.Ytmfmjoibofadlaa.M
open Go.ChangeShapes Go.WideShapes Go.ChangeAt Go.RowKit
set_option linter.unusedSimpArgs false

/-- A write of v that ends at once, and a read of t behind it. -/
def seW (v : ByteArray) (b : Int) : Lo := ⟨true, v, 0, b, b + 1⟩
def seR (t : ByteArray) (b : Int) : Lo := ⟨false, t, 0, b + 2, b + 3⟩
def seL (v t : ByteArray) (b : Int) : List Lo := [seW v b, seR t b]

theorem seL0 (v t : ByteArray) (b : Int) : (seL v t b).getD 0 .z0 = seW v b := rfl
theorem seL1 (v t : ByteArray) (b : Int) : (seL v t b).getD 1 .z0 = seR t b := rfl

theorem se_ans0 (v : ByteArray) {b : Int} (hb : 1 ≤ b) : (seW v b).ans = true := by
  unfold Lo.ans seW
  simp
  omega

theorem se_ans1 (t : ByteArray) {b : Int} (hb : 1 ≤ b) : (seR t b).ans = true := by
  unfold Lo.ans seR
  simp
  omega

theorem se_mus (v t : ByteArray) {b : Int} (hb : 1 ≤ b) : musN (seL v t b) 2 = 3 := by
  unfold musN musN musN
  rw [seL0, seL1, se_ans0 v hb, se_ans1 t hb, if_pos rfl, if_pos rfl]
  decide

theorem se_wr (v t : ByteArray) (b : Int) : wrF (seL v t b) 2 = [0] := rfl

theorem se_rd (v t : ByteArray) {b : Int} (hb : 1 ≤ b) : rdF (seL v t b) 2 = [1] := by
  unfold rdF rdF rdF
  rw [seL0, seL1, se_ans1 t hb]
  rfl

theorem se_ahd (v t : ByteArray) {b : Int} (hb : 1 ≤ b) : ahd (seW v b) (seW v b) = false ∧ ahd (seR t b) (seW v b) = false ∧ ahd (seW v b) (seR t b) = true ∧ ahd (seR t b) (seR t b) = false := by
  unfold ahd
  rw [se_ans0 v hb, se_ans1 t hb]
  unfold seW seR
  simp
  omega

theorem se_ah (v t : ByteArray) {b : Int} (hb : 1 ≤ b) : ahL (seL v t b) = [0, 1] := by
  obtain ⟨h0, h1, h2, h3⟩ := se_ahd v t hb
  have e0 : ahN (seL v t b) (seW v b) 2 = 0 := by
    unfold ahN ahN ahN
    rw [seL0, seL1, h0, h1]
    rfl
  have e1 : ahN (seL v t b) (seR t b) 2 = 1 := by
    unfold ahN ahN ahN
    rw [seL0, seL1, h2, h3]
    decide
  show [(ahN (seL v t b) ((seL v t b).getD 0 .z0) 2 : Int), (ahN (seL v t b) ((seL v t b).getD 1 .z0) 2 : Int)] = [0, 1]
  rw [seL0, seL1, e0, e1]
  rfl

/-- The calls' part of openB as a letter. -/
def opG (n d a : Nat) (i : Int) (X : Bool) : Bool := !decide (i < 0) && (!decide ((n : Int) ≤ i) && (!hasN d i && ((((butN a d : Nat) : Int) == 0) && X)))

theorem se_o01 (v t : ByteArray) (b : Int) (x : ByteArray) : openB 2 (seL v t b) [0, 1] 0 x 1 = false := by
  show opG 2 0 1 1 _ = false
  generalize (((seL v t b).getD (1 : Int).toNat .z0).w || ((seL v t b).getD (1 : Int).toNat .z0).s.toList == x.toList) = X
  cases X <;> decide +kernel

theorem se_o00 (v t : ByteArray) (b : Int) (x : ByteArray) : openB 2 (seL v t b) [0, 1] 0 x 0 = true := by
  show opG 2 0 0 0 true = true
  decide +kernel

theorem se_o10 (v t : ByteArray) (b : Int) (x : ByteArray) : openB 2 (seL v t b) [0, 1] 1 x 0 = false := by
  show opG 2 1 0 0 _ = false
  generalize (((seL v t b).getD (0 : Int).toNat .z0).w || ((seL v t b).getD (0 : Int).toNat .z0).s.toList == x.toList) = X
  cases X <;> decide +kernel

theorem se_o11 (v t : ByteArray) (b : Int) (x : ByteArray) : openB 2 (seL v t b) [0, 1] 1 x 1 = (t.toList == x.toList) := by
  show opG 2 1 1 1 (false || t.toList == x.toList) = _
  generalize (t.toList == x.toList) = X
  cases X <;> decide +kernel

theorem se_same (v t : ByteArray) (b : Int) (d : Nat) (x : ByteArray) : sameB 2 (seL v t b) [0, 1] d x 1 0 = ((v.toList == t.toList) && openB 2 (seL v t b) [0, 1] d x 0) := rfl

theorem se_tries0 (v t : ByteArray) (b : Int) : triesF 2 (seL v t b) 3 [0, 1] [1] [0] 0 ⟨#[]⟩ = if (v.toList == t.toList) = true then [0, 0] else [0] := by
  have hr : rnS 2 (seL v t b) [0, 1] 0 ⟨#[]⟩ [0] 1 = if (v.toList == t.toList) = true then [0] else [] := by
    unfold rnS
    by_cases h : (v.toList == t.toList) = true
    · have hx : ixI (sameB 2 (seL v t b) [0, 1] 0 ⟨#[]⟩ 1) 0 [0] = 0 := by
        unfold ixI
        rw [se_same, h, se_o00]
        rfl
      have ho : openB 2 (seL v t b) [0, 1] 1 v 1 = true := by
        rw [se_o11]
        rw [beq_iff_eq] at h ⊢
        exact h.symm
      rw [hx, if_pos h]
      exact if_pos ⟨Int.le_refl _, ho⟩
    · have hx : ixI (sameB 2 (seL v t b) [0, 1] 0 ⟨#[]⟩ 1) 0 [0] = -1 := by
        unfold ixI ixI
        rw [se_same, eq_false_of_ne_true h, Bool.false_and]
        rfl
      rw [hx, if_neg h]
      exact if_neg fun h2 => absurd h2.1 (by decide)
  have hu : unF 2 (seL v t b) 3 [0, 1] 0 ⟨#[]⟩ [0] = [0] := by
    unfold unF
    have h1 : ([0] : List Int).filter (fun j => hasN (butN 3 0) j) = [0] := by decide +kernel
    rw [h1, List.filter_cons, se_o00]
    rfl
  unfold triesF
  have hx : ixI (openB 2 (seL v t b) [0, 1] 0 ⟨#[]⟩) 0 [1] = -1 := by
    unfold ixI ixI
    rw [se_o01]
    rfl
  rw [hx, if_neg (by decide), hu]
  unfold rnF
  rw [List.map_cons, List.map_nil, hr]
  by_cases h : (v.toList == t.toList) = true
  · rw [if_pos h, if_pos h]; rfl
  · rw [if_neg h, if_neg h]; rfl

theorem se_tries1 (v t : ByteArray) (b : Int) : triesF 2 (seL v t b) 3 [0, 1] [1] [0] 1 v = if (t.toList == v.toList) = true then [1] else [] := by
  unfold triesF
  by_cases h : (t.toList == v.toList) = true
  · have hx : ixI (openB 2 (seL v t b) [0, 1] 1 v) 0 [1] = 0 := by
      unfold ixI
      rw [se_o11, h]
      rfl
    rw [hx, if_pos (Int.le_refl _), if_pos h]
    rfl
  · have hx : ixI (openB 2 (seL v t b) [0, 1] 1 v) 0 [1] = -1 := by
      unfold ixI ixI
      rw [se_o11, eq_false_of_ne_true h]
      rfl
    have hu : unF 2 (seL v t b) 3 [0, 1] 1 v [0] = [] := by
      unfold unF
      have h1 : ([0] : List Int).filter (fun j => hasN (butN 3 1) j) = [] := by decide +kernel
      rw [h1]
      rfl
    have hs : ixI (sameB 2 (seL v t b) [0, 1] 1 v 1) 0 [0] = -1 := by
      unfold ixI ixI
      rw [se_same, se_o10, Bool.and_false]
      rfl
    have hr : rnS 2 (seL v t b) [0, 1] 1 v [0] 1 = [] := by
      unfold rnS
      rw [hs]
      exact if_neg fun h2 => absurd h2.1 (by decide)
    rw [hx, if_neg (by decide), hu, if_neg h]
    unfold rnF
    rw [List.map_cons, List.map_nil, hr]
    rfl

theorem se_srO (v t : ByteArray) {b : Int} (hb : 1 ≤ b) : srO (seL v t b) 2 = ⟨0, none, 2, 0, none, 0, seL v t b, 3, [0, 1], none, 0, 0, [1], none, 0, 0, [0], 0, 0⟩ := by
  unfold srO
  rw [se_mus v t hb, se_ah v t hb, se_rd v t hb, se_wr]

theorem toList_iff (v t : ByteArray) : (v.toList == t.toList) = true ↔ v.data.toList = t.data.toList := by
  rw [beq_iff_eq, ByteArray.toList_eq, ByteArray.toList_eq]

theorem found_seen (v t : ByteArray) {b : Int} (hb : 1 ≤ b) : ∃ K row, foundF (srO (seL v t b) 2) 4 [] [] 0 ⟨#[]⟩ = some ((v.toList == t.toList), K, row) := by
  rw [se_srO v t hb]
  have o0 : overB 3 0 = false := by decide +kernel
  have o1 : overB 3 1 = false := by decide +kernel
  have o3 : overB 3 3 = true := by decide +kernel
  have b0 : (0 : Nat) ||| bitN 0 = 1 := by decide +kernel
  have b1 : (1 : Nat) ||| bitN 1 = 3 := by decide +kernel
  have hp : ∀ x, hasP [(0, (⟨#[]⟩ : ByteArray))] 1 x = false := fun x => by simp [hasP]
  by_cases h : (v.toList == t.toList) = true
  · have h' : (t.toList == v.toList) = true := by rw [beq_iff_eq] at h ⊢; exact h.symm
    rw [h]
    refine ⟨[(1, v), (0, ⟨#[]⟩)], [0, 1], ?_⟩
    unfold foundF
    rw [if_neg (by rw [o0]; exact Bool.false_ne_true), if_neg (by decide)]
    rw [se_tries0, if_pos h]
    unfold goF
    dsimp only
    rw [show (0 : Nat) ||| bitN (0 : Int) = 1 from b0]
    unfold foundF
    rw [if_neg (by rw [o1]; exact Bool.false_ne_true), if_neg (by rw [show ((seL v t b).getD (0 : Int).toNat .z0).s = v from rfl, hp]; exact Bool.false_ne_true)]
    rw [show ((seL v t b).getD (0 : Int).toNat .z0).s = v from rfl, se_tries1, if_pos h']
    unfold goF
    dsimp only
    rw [show (1 : Nat) ||| bitN (1 : Int) = 3 from b1]
    unfold foundF
    rw [if_pos o3]
    rfl
  · have h' : ¬ (t.toList == v.toList) = true := by rw [beq_iff_eq] at h ⊢; exact fun e => h e.symm
    rw [eq_false_of_ne_true h]
    refine ⟨[(1, v), (0, ⟨#[]⟩)], [], ?_⟩
    unfold foundF
    rw [if_neg (by rw [o0]; exact Bool.false_ne_true), if_neg (by decide)]
    rw [se_tries0, if_neg h]
    unfold goF
    dsimp only
    rw [show (0 : Nat) ||| bitN (0 : Int) = 1 from b0]
    unfold foundF
    rw [if_neg (by rw [o1]; exact Bool.false_ne_true), if_neg (by rw [show ((seL v t b).getD (0 : Int).toNat .z0).s = v from rfl, hp]; exact Bool.false_ne_true)]
    rw [show ((seL v t b).getD (0 : Int).toNat .z0).s = v from rfl, se_tries1, if_neg h']
    rfl

end Go.Proofs.Ytmfmjoibofadlaa.M
