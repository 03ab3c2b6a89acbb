/-
  Own text: calls that versions explain, in the order of their versions, fit (plain words).
-/
import Derived.Test.YtmfmjoibofadlaaOFitP
namespace Go.Proofs.Ytmfmjoibofadlaa.M
open Go.ChangeShapes Go.WideShapes Go.ChangeAt Go.RowKit Go.ChangeMaps Go.MapKept Go.Maps
set_option linter.unusedSimpArgs false

/-- A write with a version. -/
def plc (o : Lo) : Bool := o.w && decide (0 < o.v)

theorem plc_iff {o : Lo} : plc o = true ↔ o.w = true ∧ 0 < o.v := by unfold plc; simp

theorem bfr_iff {a b : Lo} : bfr a b = true ↔ 0 < a.e ∧ a.e < b.b := by unfold bfr; simp

theorem no_v {o : Lo} (h : ¬ Lo.no o = true) : 0 ≤ o.v := by unfold Lo.no at h; simp at h; omega

theorem ans_pos {o : Lo} (h : 0 < o.e) : o.ans = true := by unfold Lo.ans; simp; omega

/-- A call that has its place among versions. -/
def cntO (o : Lo) : Bool := o.ans || plc o

def rkO (o : Lo) : Nat := if o.w = true then 0 else 1

/-- The order of versions. -/
def lessO (L : List Lo) (i j : Nat) : Prop :=
  (L.getD i .z0).v < (L.getD j .z0).v ∨ ((L.getD i .z0).v = (L.getD j .z0).v ∧ (rkO (L.getD i .z0) < rkO (L.getD j .z0) ∨ (rkO (L.getD i .z0) = rkO (L.getD j .z0) ∧ ((L.getD i .z0).b < (L.getD j .z0).b ∨ ((L.getD i .z0).b = (L.getD j .z0).b ∧ i < j)))))

/-- What a read was told is a write's of its version. -/
def heardO (L : List Lo) (o : Lo) : Prop :=
  (o.v = 0 ∧ o.s.toList = []) ∨ ∃ j, j < L.length ∧ plc (L.getD j .z0) = true ∧ (L.getD j .z0).v = o.v ∧ (L.getD j .z0).s.toList = o.s.toList ∧ (L.getD j .z0).b < o.e

/-- Versions explain calls. -/
structure Expl (L : List Lo) (row : List Nat) : Prop where
  one : ∀ i j, i < L.length → j < L.length → plc (L.getD i .z0) = true → plc (L.getD j .z0) = true → (L.getD i .z0).v = (L.getD j .z0).v → i = j
  told : ∀ i, i < L.length → (L.getD i .z0).ans = true → plc (L.getD i .z0) = false → (L.getD i .z0).w = false ∧ heardO L (L.getD i .z0)
  rise : row.Pairwise fun i j => (L.getD i .z0).v < (L.getD j .z0).v → bfr (L.getD j .z0) (L.getD i .z0) = false

structure ByRow (L : List Lo) (row : List Nat) : Prop where
  mem : ∀ i, i ∈ row ↔ i < L.length ∧ cntO (L.getD i .z0) = true
  srt : row.Pairwise (lessO L)

theorem lessO_irr {L : List Lo} {i : Nat} (h : lessO L i i) : False := by
  unfold lessO at h
  omega

theorem lessO_asy {L : List Lo} {i j : Nat} (h : lessO L i j) (k : lessO L j i) : False := by
  unfold lessO at h k
  omega

/-- What the register has behind calls. -/
def valO (L : List Lo) (pre : List Nat) : List UInt8 := match pre.getLast? with
  | none => []
  | some p => (L.getD p .z0).s.toList

theorem valO_snoc (L : List Lo) (pre : List Nat) (i : Nat) : valO L (pre ++ [i]) = (L.getD i .z0).s.toList := by
  unfold valO
  rw [List.getLast?_append]
  rfl

/-- A write that has its place has a version. -/
theorem Expl.wr {L : List Lo} {row : List Nat} (h : Expl L row) {i : Nat} (hi : i < L.length) (hc : cntO (L.getD i .z0) = true) (hw : (L.getD i .z0).w = true) : plc (L.getD i .z0) = true := by
  cases hp : plc (L.getD i .z0) with
  | true => rfl
  | false =>
    unfold cntO at hc
    rw [hp, Bool.or_false] at hc
    have := (h.told i hi hc hp).1
    rw [hw] at this
    cases this

theorem Expl.rd {L : List Lo} {row : List Nat} (h : Expl L row) {i : Nat} (hi : i < L.length) (hc : cntO (L.getD i .z0) = true) (hw : (L.getD i .z0).w = false) : heardO L (L.getD i .z0) := by
  have hp : plc (L.getD i .z0) = false := by unfold plc; rw [hw]; rfl
  unfold cntO at hc
  rw [hp, Bool.or_false] at hc
  exact (h.told i hi hc hp).2

theorem rightO_v {L : List Lo} (h : rightO L = 0) (k : Nat) (hk : k < L.length) : 0 ≤ (L.getD k .z0).v := by
  unfold rightO at h
  split at h
  · cases h
  · split at h
    · cases h
    · rename_i _ hn
      have h2 : L.any Lo.no = false := by simpa using hn
      have h3 := List.any_eq_false.1 h2 (L.getD k .z0) (by rw [List.getD_eq_getElem?_getD, List.getElem?_eq_getElem hk]; exact List.getElem_mem _)
      exact no_v h3

/-- A read that stands next has what the register has. -/
theorem read_next {L : List Lo} (hR : rightO L = 0) {row : List Nat} (hB : ByRow L row) (hE : Expl L row) {pre suf : List Nat} {i : Nat} (hr : row = pre ++ i :: suf) (hw : (L.getD i .z0).w = false) : (L.getD i .z0).s.toList = valO L pre := by
  have hin : ∀ k, k ∈ row → k < L.length ∧ cntO (L.getD k .z0) = true := fun k hk => (hB.mem k).1 hk
  have him := hin i (by rw [hr]; simp)
  have hs := hB.srt
  rw [hr, List.pairwise_append] at hs
  obtain ⟨hs1, hs2, hs3⟩ := hs
  have hpi : ∀ p ∈ pre, lessO L p i := fun p hp => hs3 p hp i (List.mem_cons_self ..)
  have hik : ∀ k ∈ suf, lessO L i k := (List.pairwise_cons.1 hs2).1
  have hpl : ∀ p ∈ pre, p < L.length ∧ cntO (L.getD p .z0) = true := fun p hp => hin p (by rw [hr]; simp [hp])
  have hri : rkO (L.getD i .z0) = 1 := by unfold rkO; rw [hw]; rfl
  rcases hE.rd him.1 him.2 hw with ⟨h0, he⟩ | ⟨j, hj, hjp, hjv, hjs, _⟩
  · rw [he]
    unfold valO
    cases hl : pre.getLast? with
    | none => rfl
    | some p =>
      have hp := List.mem_of_getLast? hl
      have h1 := hpi p hp
      obtain ⟨h2, h3⟩ := hpl p hp
      have h4 := rightO_v hR p h2
      have hpv : (L.getD p .z0).v = 0 := by unfold lessO at h1; omega
      cases hpw : (L.getD p .z0).w with
      | true =>
        have := hE.wr h2 h3 hpw
        have := (plc_iff.1 this).2
        omega
      | false =>
        rcases hE.rd h2 h3 hpw with ⟨_, h6⟩ | ⟨j, hj, hjp, hjv, _⟩
        · exact h6.symm
        · have := (plc_iff.1 hjp).2
          omega
  · have hjw : (L.getD j .z0).w = true := (plc_iff.1 hjp).1
    have hjr : rkO (L.getD j .z0) = 0 := by unfold rkO; rw [hjw]; rfl
    have hvp : 0 < (L.getD j .z0).v := (plc_iff.1 hjp).2
    have hji : lessO L j i := Or.inr ⟨hjv, Or.inl (by omega)⟩
    have hjm : j ∈ row := (hB.mem j).2 ⟨hj, by unfold cntO; rw [hjp, Bool.or_true]⟩
    have hjpre : j ∈ pre := by
      rw [hr] at hjm
      rcases List.mem_append.1 hjm with h | h
      · exact h
      · rcases List.mem_cons.1 h with rfl | h
        · exact (lessO_irr hji).elim
        · exact (lessO_asy hji (hik j h)).elim
    unfold valO
    cases hl : pre.getLast? with
    | none =>
      rw [List.getLast?_eq_none_iff] at hl
      rw [hl] at hjpre
      cases hjpre
    | some p =>
      have hp := List.mem_of_getLast? hl
      have h1 := hpi p hp
      obtain ⟨h2, h3⟩ := hpl p hp
      have hjp' : j = p ∨ lessO L j p := by
        obtain ⟨ys, hys⟩ := List.getLast?_eq_some_iff.1 hl
        rw [hys] at hjpre hs1
        rcases List.mem_append.1 hjpre with h | h
        · exact Or.inr ((List.pairwise_append.1 hs1).2.2 j h p (List.mem_singleton.2 rfl))
        · exact Or.inl (List.mem_singleton.1 h)
      have hpv : (L.getD p .z0).v = (L.getD i .z0).v := by
        rcases hjp' with rfl | h
        · exact hjv
        · unfold lessO at h h1; omega
      show _ = (L.getD p .z0).s.toList
      cases hpw : (L.getD p .z0).w with
      | true =>
        have h5 := hE.wr h2 h3 hpw
        rw [hE.one p j h2 hj h5 hjp (by omega), hjs]
      | false =>
        rcases hE.rd h2 h3 hpw with ⟨h6, _⟩ | ⟨j2, hj2, hjp2, hjv2, hjs2, _⟩
        · omega
        · rw [← hjs2, hE.one j2 j hj2 hj hjp2 hjp (by omega), hjs]

/-- None that ended ahead of one's beginning stands behind it. -/
theorem none_ahead {L : List Lo} (hR : rightO L = 0) {row : List Nat} (hB : ByRow L row) (hE : Expl L row) {pre suf : List Nat} {i k : Nat} (hr : row = pre ++ i :: suf) (hk : k ∈ suf) (hb : bfr (L.getD k .z0) (L.getD i .z0) = true) : False := by
  have hin : ∀ k, k ∈ row → k < L.length ∧ cntO (L.getD k .z0) = true := fun k hk => (hB.mem k).1 hk
  have him := hin i (by rw [hr]; simp)
  have hkm := hin k (by rw [hr]; simp [hk])
  have hs := hB.srt
  have hrs := hE.rise
  rw [hr, List.pairwise_append] at hs hrs
  have hik : lessO L i k := (List.pairwise_cons.1 hs.2.1).1 k hk
  have hrk := (List.pairwise_cons.1 hrs.2.1).1 k hk
  have hke := right_each hR k hkm.1
  have hb2 := bfr_iff.1 hb
  rcases hik with h | ⟨hv, h | ⟨hrr, h⟩⟩
  · rw [hrk h] at hb
    cases hb
  · have hkw : (L.getD k .z0).w = false := by
      cases hw : (L.getD k .z0).w with
      | false => rfl
      | true => unfold rkO at h; rw [hw] at h; simp at h
    have hiw : (L.getD i .z0).w = true := by
      cases hw : (L.getD i .z0).w with
      | true => rfl
      | false => unfold rkO at h; rw [hw, hkw] at h; simp at h
    have hip := hE.wr him.1 him.2 hiw
    have hvp : 0 < (L.getD i .z0).v := (plc_iff.1 hip).2
    rcases hE.rd hkm.1 hkm.2 hkw with ⟨h6, _⟩ | ⟨j, hj, hjp, hjv, _, hje⟩
    · omega
    · rw [hE.one j i hj him.1 hjp hip (by omega)] at hje
      omega
  · omega

theorem prove_fits {L : List Lo} (hR : rightO L = 0) {row : List Nat} (hB : ByRow L row) (hE : Expl L row) : ∀ (suf pre : List Nat), row = pre ++ suf → ∀ (xs : List Bool) (v : ByteArray), xs.length = L.length → (∀ k, k < L.length → xs.getD k false = !decide (k ∈ pre)) → v.toList = valO L pre →
    rfG L L.length (suf.map fun i : Nat => (i : Int)) xs v = true
  | [], pre, hr, xs, v, hl, hx, hv => by
    show rfE L xs L.length L.length = true
    rw [rfE_iff L xs L.length L.length (Nat.le_refl _)]
    rintro k _ hk ⟨h1, h2⟩
    have hm : k ∈ row := (hB.mem k).2 ⟨hk, by unfold cntO; rw [ans_pos h2, Bool.true_or]⟩
    rw [hr, List.append_nil] at hm
    rw [hx k hk, decide_eq_true hm] at h1
    cases h1
  | i :: suf, pre, hr, xs, v, hl, hx, hv => by
    have him := (hB.mem i).1 (by rw [hr]; simp)
    have hs := hB.srt
    rw [hr, List.pairwise_append] at hs
    have hni : i ∉ pre := fun h => lessO_irr (hs.2.2 i h i (List.mem_cons_self ..))
    have hxi : xs.getD i false = true := by rw [hx i him.1, decide_eq_false hni]; rfl
    have hnx : nxA L xs i L.length L.length = true := by
      rw [nxA_iff L xs i L.length L.length (Nat.le_refl _)]
      rintro k _ hk ⟨h1, h2, h3⟩
      have hke : 0 < (L.getD k .z0).e := (bfr_iff.1 h3).1
      have hm : k ∈ row := (hB.mem k).2 ⟨hk, by unfold cntO; rw [ans_pos hke, Bool.true_or]⟩
      rw [hr] at hm
      rcases List.mem_append.1 hm with h | h
      · rw [hx k hk, decide_eq_true h] at h1
        cases h1
      · rcases List.mem_cons.1 h with rfl | h
        · exact h2 rfl
        · exact none_ahead hR hB hE hr h h3
    have hr2 : row = (pre ++ [i]) ++ suf := by rw [hr]; simp
    have hl2 : (xs.set i false).length = L.length := by rw [List.length_set]; exact hl
    have hx2 : ∀ k, k < L.length → (xs.set i false).getD k false = !decide (k ∈ pre ++ [i]) := fun k hk => by
      rw [List.getD_eq_getElem?_getD, List.getElem?_set]
      by_cases hki : i = k
      · subst hki
        rw [if_pos rfl, if_pos (by omega), decide_eq_true (by simp)]
        rfl
      · rw [if_neg hki, ← List.getD_eq_getElem?_getD, hx k hk]
        congr 1
        simp [Ne.symm hki]
    show rfG L L.length ((i : Int) :: suf.map fun i : Nat => (i : Int)) xs v = true
    unfold rfG
    rw [if_neg (by omega), Int.toNat_natCast, if_neg (by rw [hxi]; decide), if_neg (by rw [hnx]; decide)]
    cases hw : (L.getD i .z0).w with
    | true =>
      rw [if_pos rfl]
      exact prove_fits hR hB hE suf _ hr2 _ _ hl2 hx2 (valO_snoc L pre i).symm
    | false =>
      have hrd := read_next hR hB hE hr hw
      rw [if_neg (by decide), if_pos (by rw [hrd, hv]; simp)]
      exact prove_fits hR hB hE suf _ hr2 _ _ hl2 hx2 (by rw [hv, valO_snoc, hrd])

/-- Both say that it fits. -/
theorem proves_fit {L : List Lo} (hR : rightO L = 0) {row : List Nat} (hB : ByRow L row) (hE : Expl L row) : fitsO L (row.map fun i : Nat => (i : Int)) = true ∧ rfO L (row.map fun i : Nat => (i : Int)) = true := by
  have h : rfO L (row.map fun i : Nat => (i : Int)) = true := by
    unfold rfO
    rw [if_pos hR]
    refine prove_fits hR hB hE row [] rfl _ _ (by simp) (fun k hk => ?_) (by rw [ByteArray.toList]; unfold ByteArray.toList.loop; rfl)
    rw [List.getD_eq_getElem?_getD, List.getElem?_replicate, if_pos hk]
    rfl
  exact ⟨by rw [fits_same]; exact h, h⟩

end Go.Proofs.Ytmfmjoibofadlaa.M
