/-
  Own text: reels in plain words: what is loaded, of which bytes; what a tape's files are, and that it is opened as it was.
-/
import Derived.Test.YtpjhadaiodnnaaaTOpn
namespace Go.Proofs.Ytpjhadaiodnnaaa.M
open Go.ChangeShapes Go.WideShapes Go.ChangeAt Go.RowKit
set_option linter.unusedSimpArgs false

/-- A reel's first record: the generation, how many were saved, the base. -/
def hdR (gen ns : Nat) (base : List Int) : List Int := putL gen ++ (putL ns ++ (putL base.length ++ base))

theorem headR_hd (r : PR) : headR r = hdR r.gen.toNat r.recs.length r.base := by
  unfold headR hdR
  simp [putAll]

theorem wL_put {lo m : Nat} (h1 : lo ≤ m) (h2 : m ≤ 1099511627776) (rest : List Int) : wL lo (putL m ++ rest, 0) = ((m : Int), (rest, 0)) := by
  unfold wL
  dsimp only
  rw [if_pos rfl, numR_putL (by omega)]
  dsimp only
  rw [if_pos rfl, if_pos ⟨h1, h2⟩, List.drop_left]

theorem bR_put {base : List Int} (h : base.length ≤ 8176) : bR 8176 (putL base.length ++ base, 0) = (base, ([], 0)) := by
  unfold bR
  dsimp only
  rw [if_pos rfl, numR_putL (by omega)]
  dsimp only
  rw [if_pos rfl, if_neg (by omega), if_neg (by rw [List.length_append]; omega), List.drop_left, List.take_length, List.drop_of_length_le (by rw [List.length_append]; exact Nat.le_refl _)]

theorem hdR_ok {gen ns : Nat} {base : List Int} (hg : gen ≤ 1099511627776) (hn : ns ≤ 1000000) (hb : base.length ≤ 8176 ∧ By base) : By (hdR gen ns base) ∧ (hdR gen ns base).length ≤ 8192 := by
  unfold hdR
  refine ⟨By.app (putL_by _) (By.app (putL_by _) (By.app (putL_by _) hb.2)), ?_⟩
  rw [List.length_append, List.length_append, List.length_append]
  have h1 := putL_len_le 5 gen (Nat.lt_of_le_of_lt hg (by decide))
  have h2 := putL_len_le 2 ns (Nat.lt_of_le_of_lt hn (by decide))
  have h3 := putL_len_le 1 base.length (Nat.lt_of_le_of_lt hb.1 (by decide))
  omega

/-- A reel's file: its first record, and the records. -/
def fileR (gen ns : Nat) (base : List Int) (recs : List (List Int)) : List Int := sealL (hdR gen ns base) ++ (recs.map sealL).flatten

theorem sealR_file (r : PR) : sealR r = fileR r.gen.toNat r.recs.length r.base r.recs := by
  unfold sealR fileR
  rw [headR_hd]

theorem fileR_put (gen ns : Nat) (base : List Int) (recs : List (List Int)) (xs : List Int) : fileR gen ns base recs ++ sealL xs = fileR gen ns base (recs ++ [xs]) := by
  unfold fileR
  simp

theorem flat_by {recs : List (List Int)} (h : ∀ d ∈ recs, By d) : By (recs.map sealL).flatten := fun x hx => by
  rw [List.mem_flatten] at hx
  obtain ⟨y, hy, hxy⟩ := hx
  obtain ⟨z, hz, rfl⟩ := List.mem_map.1 hy
  exact sealL_by (h z hz) x hxy

theorem fileR_by {gen ns : Nat} {base : List Int} {recs : List (List Int)} (hb : By base) (h : ∀ d ∈ recs, By d) : By (fileR gen ns base recs) :=
  By.app (sealL_by (By.app (putL_by _) (By.app (putL_by _) (By.app (putL_by _) hb)))) (flat_by h)

theorem getD_all {P : List Int → Prop} {l : List (List Int)} (h : ∀ i, i < l.length → P (l.getD i [])) : ∀ d ∈ l, P d := fun d hd => by
  obtain ⟨i, hi, rfl⟩ := List.getElem_of_mem hd
  have := h i hi
  rw [List.getD_eq_getElem?_getD, List.getElem?_eq_getElem hi] at this
  exact this

theorem all_getD {P : List Int → Prop} {l : List (List Int)} (h : ∀ d ∈ l, P d) : ∀ i, i < l.length → P (l.getD i []) := fun i hi => by
  rw [List.getD_eq_getElem?_getD, List.getElem?_eq_getElem hi]
  exact h _ (List.getElem_mem hi)

/-- What a reel's file is loaded as. -/
theorem ldR_file {gen ns : Nat} {base : List Int} {recs : List (List Int)} (h1 : 1 ≤ gen) (h2 : gen ≤ 1099511627776) (hn : ns ≤ recs.length) (hm : ns ≤ 1000000) (hb : base.length ≤ 8176 ∧ By base) (hr : ∀ d ∈ recs, By d ∧ d.length ≤ 8192) :
    ldR (fileR gen ns base recs) = (⟨(gen : Int), base, recs⟩, true) := by
  obtain ⟨hh1, hh2⟩ := hdR_ok h2 hm hb
  have hA : allR (fileR gen ns base recs) = (hdR gen ns base :: recs, (fileR gen ns base recs).length) := by
    have := allR_seals (hdR gen ns base :: recs) [] (fun d hd => by
      rcases List.mem_cons.1 hd with rfl | hd
      · exact ⟨hh1, hh2⟩
      · exact hr d hd) By.nil (by rw [openR_nil]; decide)
    rw [List.append_nil] at this
    have e : ((hdR gen ns base :: recs).map sealL).flatten = fileR gen ns base recs := by unfold fileR; simp
    rw [e] at this
    exact this
  unfold ldR
  rw [hA]
  dsimp only
  rw [if_neg (by simp)]
  have e0 : (hdR gen ns base :: recs).getD 0 [] = hdR gen ns base := rfl
  rw [e0]
  unfold hdR
  rw [wL_put h1 h2]
  dsimp only
  rw [wL_put (Nat.zero_le _) (by omega)]
  dsimp only
  rw [bR_put hb.1]
  rw [if_pos ⟨rfl, by rw [List.length_cons]; omega⟩, decide_eq_true rfl]
  rfl

theorem wL_ge (s : List Int × Nat) (lo : Nat) : 0 ≤ (wL lo s).1 ∧ (wL lo s).1 ≤ 1099511627776 := by
  unfold wL
  split
  · split
    · split
      · rename_i h
        exact ⟨Int.natCast_nonneg _, by have := h.2; show (((numR s.1).1 : Nat) : Int) ≤ _; omega⟩
      · exact ⟨Int.le_refl _, (by decide : (0 : Int) ≤ 1099511627776)⟩
    · exact ⟨Int.le_refl _, (by decide : (0 : Int) ≤ 1099511627776)⟩
  · exact ⟨Int.le_refl _, (by decide : (0 : Int) ≤ 1099511627776)⟩

theorem wL_by {s : List Int × Nat} (h : By s.1) (lo : Nat) : By (wL lo s).2.1 := by
  unfold wL
  split
  · split
    · split
      · exact h.drop _
      · exact h
    · exact h
  · exact h

theorem bR_ok {s : List Int × Nat} (h : By s.1) : (bR 8176 s).1.length ≤ 8176 ∧ By (bR 8176 s).1 := by
  unfold bR
  split
  · split
    · split
      · exact ⟨Nat.zero_le _, By.nil⟩
      · split
        · exact ⟨Nat.zero_le _, By.nil⟩
        · rename_i h1 h2
          refine ⟨?_, fun x hx => h.drop _ x (List.mem_of_mem_take hx)⟩
          dsimp only
          rw [List.length_take]
          omega
    · exact ⟨Nat.zero_le _, By.nil⟩
  · exact ⟨Nat.zero_le _, By.nil⟩

/-- Whatever bytes: what is loaded may be a reel. -/
theorem ldR_fit {xs : List Int} (h : By xs) : (ldR xs).1.fit ∧ 5 * (ldR xs).1.recs.length ≤ xs.length ∧ (ldR xs).1.gen ≤ 1099511627776 := by
  unfold ldR
  by_cases h0 : (allR xs).1 = []
  · rw [if_pos h0]
    exact ⟨PR.fit.z0, Nat.zero_le _, by decide⟩
  · rw [if_neg h0]
    split
    · have hp : 0 < (allR xs).1.length := List.length_pos_iff.2 h0
      have hA := allR_by xs h
      refine ⟨⟨(wL_ge _ _).1, bR_ok (wL_by (wL_by (hA 0 hp).1 _) _), fun i hi => ?_⟩, ?_, (wL_ge _ _).2⟩
      · dsimp only at hi ⊢
        rw [List.length_drop] at hi
        have := hA (1 + i) (by omega)
        rw [List.getD_eq_getElem?_getD, List.getElem?_drop, ← List.getD_eq_getElem?_getD]
        exact this
      · dsimp only
        rw [List.length_drop]
        have := allR_few5 xs h
        omega
    · exact ⟨PR.fit.z0, Nat.zero_le _, by decide⟩

/-- Of the reel that counts. -/
theorem cnt_fit {m : PD} (h : ∀ i, i < 2 → By (m.f i).told) : (cnt m).1 ≤ 1 ∧ (cnt m).2.1.fit ∧ (cnt m).2.1.gen ≤ 1099511627776 ∧ ∀ s, (∀ i, i < 2 → (m.f i).told.length ≤ s) → 5 * (cnt m).2.1.recs.length ≤ s := by
  have key : ∀ k, k ≤ 2 → (scT (fun i => (m.f i).told) k).1 ≤ 1 ∧ (scT (fun i => (m.f i).told) k).2.1.fit ∧ (scT (fun i => (m.f i).told) k).2.1.gen ≤ 1099511627776 ∧ ∀ s, (∀ i, i < 2 → (m.f i).told.length ≤ s) → 5 * (scT (fun i => (m.f i).told) k).2.1.recs.length ≤ s := by
    intro k
    induction k with
    | zero => intro _; exact ⟨Nat.le_refl _, PR.fit.z0, (by decide : (0 : Int) ≤ 1099511627776), fun s _ => Nat.zero_le _⟩
    | succ k ih =>
      intro hk
      have ih := ih (by omega)
      have hl := ldR_fit (h k (by omega))
      rw [scT]
      split
      · exact ⟨by show k ≤ 1; omega, hl.1, hl.2.2, fun s hs => Nat.le_trans hl.2.1 (hs k (by omega))⟩
      · exact ih
  exact key 2 (Nat.le_refl _)

/-- A tape's own file is its reel's, the other one has an elder reel or none. -/
structure Liv (m : PD) (t : TP) : Prop where
  file : t.file ≤ 1
  gen : 1 ≤ t.r.gen ∧ t.r.gen ≤ 1099511627776
  base : t.r.base.length ≤ 8176 ∧ By t.r.base
  recs : ∀ d ∈ t.r.recs, By d ∧ d.length ≤ 8192
  mine : ∃ ns, ns ≤ t.r.recs.length ∧ ns ≤ 1000000 ∧ (m.f t.file).told = fileR t.r.gen.toNat ns t.r.base t.r.recs
  other : (ldR (m.f (1 - t.file)).told).1.gen < t.r.gen
  bys : ∀ i, i < 2 → By (m.f i).told

theorem Liv.load {m : PD} {t : TP} (h : Liv m t) : ldR (m.f t.file).told = (t.r, true) := by
  obtain ⟨ns, h1, h2, h3⟩ := h.mine
  have hg := h.gen
  rw [h3, ldR_file (by omega) (by omega) h1 h2 h.base h.recs, Int.toNat_of_nonneg (by omega)]

/-- It is the one that counts, whole. -/
theorem Liv.cnt {m : PD} {t : TP} (h : Liv m t) : cnt m = (t.file, t.r, true) := by
  have hl := h.load
  have ho := h.other
  have hf := h.file
  have hg := h.gen
  have hz : PR.z0.gen = 0 := rfl
  unfold M.cnt
  rcases Nat.lt_or_ge t.file 1 with hf0 | hf1
  · have e0 : t.file = 0 := by omega
    rw [e0] at hl ho ⊢
    have s1 : scT (fun i => (m.f i).told) 1 = (0, t.r, true) := by
      rw [scT]
      show (if (PR.z0).gen < (ldR (m.f 0).told).1.gen then _ else _) = _
      rw [hl, if_pos (by rw [hz]; show 0 < t.r.gen; omega)]
    rw [scT, s1]
    dsimp only
    rw [if_neg (by show ¬ t.r.gen < (ldR (m.f 1).told).1.gen; have : (ldR (m.f 1).told).1.gen < t.r.gen := ho; omega)]
  · have e1 : t.file = 1 := by omega
    rw [e1] at hl ho ⊢
    have ho' : (ldR (m.f 0).told).1.gen < t.r.gen := ho
    rw [scT, hl, if_pos]
    show (scT (fun i => (m.f i).told) 1).2.1.gen < t.r.gen
    rw [scT]
    show (if (PR.z0).gen < (ldR (m.f 0).told).1.gen then (0, (ldR (m.f 0).told).1, (ldR (m.f 0).told).2) else (1, PR.z0, false)).2.1.gen < t.r.gen
    split
    · exact ho'
    · show PR.z0.gen < _
      rw [hz]
      omega

end Go.Proofs.Ytpjhadaiodnnaaa.M
