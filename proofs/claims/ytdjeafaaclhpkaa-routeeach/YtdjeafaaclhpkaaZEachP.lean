/-
  Own text: who is near is each member once, by rising ways, in plain words.
-/
import Derived.Test.YtdjeafaaclhpkaaZRefN
import Derived.Test.YtdjeafaaclhpkaaYDel
namespace Go.Proofs.Ytdjeafaaclhpkaa.M

theorem insB_perm (cz : Mb → Mb → Int) (x : Mb) : ∀ r : List Mb, (insB cz x r).Perm (x :: r)
  | [] => List.Perm.refl _
  | y :: r => by
    unfold insB
    split
    · exact ((insB_perm cz x r).cons y).trans (List.Perm.swap _ _ _)
    · exact List.Perm.refl _

theorem fold_perm (cz : Mb → Mb → Int) : ∀ (l r : List Mb), (l.foldl (fun r x => insB cz x r) r).Perm (l ++ r)
  | [], r => List.Perm.refl _
  | x :: l, r => by
    rw [List.foldl_cons]
    refine (fold_perm cz l _).trans ?_
    refine ((insB_perm cz x r).append_left l).trans ?_
    exact List.perm_middle

theorem srt_perm (cz : Mb → Mb → Int) (L : List Mb) : (srt cz L).Perm L := by
  cases L with
  | nil => exact List.Perm.refl _
  | cons x l =>
    unfold srt
    refine (List.reverse_perm _).trans ((fold_perm cz l [x]).trans ?_)
    exact List.perm_append_comm

theorem node_eq : ∀ {l : List Mb}, l.Pairwise apartM → ∀ {a b : Mb}, a ∈ l → b ∈ l → a.n = b.n → a = b
  | [], _, _, _, h, _, _ => by cases h
  | m :: l, hp, a, b, ha, hb, e => by
    rw [List.pairwise_cons] at hp
    rcases List.mem_cons.1 ha with rfl | ha2
    · rcases List.mem_cons.1 hb with rfl | hb2
      · rfl
      · exact absurd e (hp.1 b hb2).1
    · rcases List.mem_cons.1 hb with rfl | hb2
      · exact absurd e.symm (hp.1 a ha2).1
      · exact node_eq hp.2 ha2 hb2 e

/-- Where a member stands. -/
theorem plc_of {e : Int} {ms : List Mb} (hk : chk e ms = true) {x : Mb} (hx : x ∈ ms) : ∃ i : Nat, plc e ms x.n = (i : Int) ∧ i < ms.length ∧ ms.getD i .z0 = x := by
  have hg := chk_good hk
  have e1 : plc e ms x.n = ixM (fun m => m.n == x.n) 0 ms := by unfold plc; rw [if_pos hk]
  rcases plc_bounds e ms x.n with h | h
  · rw [e1] at h
    have h2 := ixM_filter _ ms 0 h
    have h3 : x ∈ ms.filter fun m => !(m.n == x.n) := by rw [h2]; exact hx
    have h4 := (List.mem_filter.1 h3).2
    simp at h4
  · obtain ⟨i, hi⟩ := Int.eq_ofNat_of_zero_le h.1
    have h2 : ixM (fun m => m.n == x.n) 0 ms = ((0 + i : Nat) : Int) := by rw [← e1, hi, Nat.zero_add]
    obtain ⟨h3, h4, _⟩ := ixM_some _ ms 0 i h2
    refine ⟨i, hi, h3, node_eq hg.2 (getD_mb h3) hx ?_⟩
    simpa using h4

theorem bit_test {n : Int} (h0 : 0 ≤ n) (h6 : n < 64) (j : Nat) : (bitN n).testBit j = (n.toNat == j) := by
  unfold bitN
  rw [if_pos ⟨h0, h6⟩, Nat.testBit_two_pow]
  by_cases h : n.toNat = j <;> simp [h]

theorem thN_test : ∀ (l : List Mb) (x j : Nat), (thN (fun _ => true) x l).testBit j = (x.testBit j || l.any fun m => (bitN m.n).testBit j)
  | [], x, j => by simp [thN]
  | m :: l, x, j => by
    unfold thN
    rw [if_pos rfl, thN_test l, Nat.testBit_or, List.any_cons, Bool.or_assoc]

theorem thN_perm {l l' : List Mb} (h : l.Perm l') : thN (fun _ => true) 0 l = thN (fun _ => true) 0 l' := by
  apply Nat.eq_of_testBit_eq
  intro j
  rw [thN_test, thN_test]
  congr 1
  rw [Bool.eq_iff_iff, List.any_eq_true, List.any_eq_true]
  constructor
  · rintro ⟨m, hm, e⟩
    exact ⟨m, h.mem_iff.1 hm, e⟩
  · rintro ⟨m, hm, e⟩
    exact ⟨m, h.mem_iff.2 hm, e⟩

theorem thN_snoc (l : List Mb) (m : Mb) : ∀ x, thN (fun _ => true) x (l ++ [m]) = thN (fun _ => true) x l ||| bitN m.n := by
  induction l with
  | nil => intro x; simp [thN]
  | cons a l ih =>
    intro x
    rw [List.cons_append]
    unfold thN
    rw [ih]

/-- The last way of one that is not fresh. -/
def farF (xs : List Int) (i0 : Nat) : Int → List Mb → Int
  | f, [] => f
  | f, m :: l => farF xs i0 (if m.f then f else wv xs i0 m.s.toNat) l

theorem farF_snoc (xs : List Int) (i0 : Nat) (m : Mb) : ∀ (l : List Mb) (f : Int), farF xs i0 f (l ++ [m]) = if m.f then farF xs i0 f l else wv xs i0 m.s.toNat
  | [], f => rfl
  | a :: l, f => by
    rw [List.cons_append, farF, farF_snoc xs i0 m l]
    rfl

theorem farF_le (xs : List Int) (i0 : Nat) (v : Int) : ∀ (l : List Mb) (f : Int), f ≤ v → (∀ m ∈ l, m.f = false → wv xs i0 m.s.toNat ≤ v) → farF xs i0 f l ≤ v
  | [], f, hf, _ => hf
  | m :: l, f, hf, h => by
    unfold farF
    refine farF_le xs i0 v l _ ?_ fun a ha => h a (List.mem_cons_of_mem _ ha)
    cases hm : m.f with
    | true => exact hf
    | false => exact h m (by simp) hm

theorem srt_sorted {xs : List Int} (h : inW xs) (i0 : Nat) (L : List Mb) : (srt (nrC xs i0) L).Pairwise (fun a b => keyW xs i0 a ≤ keyW xs i0 b) := by
  cases L with
  | nil => exact List.Pairwise.nil
  | cons x l =>
    obtain ⟨g1, _, _⟩ := fold_ins (byKey_nr h i0 (x :: l)) l [x] (fun m hm => List.mem_cons_of_mem _ hm) (fun m hm => by simp at hm; simp [hm]) (by simp)
    unfold srt
    rw [List.pairwise_reverse]
    exact g1

theorem take_before {R : Mb → Mb → Prop} {l : List Mb} (h : l.Pairwise R) {k : Nat} (hk : k < l.length) : ∀ m ∈ l.take k, R m (l.getD k .z0) := by
  intro m hm
  have e : l = l.take k ++ l.getD k .z0 :: l.drop (k + 1) := by rw [← drop_mb hk, List.take_append_drop]
  rw [e, List.pairwise_append] at h
  exact h.2.2 m hm _ (by simp)

theorem far_ok {xs : List Int} (h : inW xs) (i0 : Nat) (ms : List Mb) {k : Nat} (hk : k < (srt (nrC xs i0) ms).length) (hf : ((srt (nrC xs i0) ms).getD k .z0).f = false) :
    ¬ wv xs i0 ((srt (nrC xs i0) ms).getD k .z0).s.toNat < farF xs i0 (-1) ((srt (nrC xs i0) ms).take k) := by
  have hv := h.at i0 ((srt (nrC xs i0) ms).getD k .z0).s.toNat
  have h2 := farF_le xs i0 (wv xs i0 ((srt (nrC xs i0) ms).getD k .z0).s.toNat) ((srt (nrC xs i0) ms).take k) (-1) (by omega) fun m hm hmf => by
    have h3 := take_before (srt_sorted h i0 ms) hk m hm
    have hv2 := h.at i0 m.s.toNat
    unfold keyW at h3
    rw [hf, hmf] at h3
    simp only [Bool.false_eq_true, if_false, Nat.zero_add] at h3
    omega
  omega

theorem seen_no {e : Int} {ms L : List Mb} (hk : chk e ms = true) (hp : L.Perm ms) {k : Nat} (hkl : k < L.length) : hasN (thN (fun _ => true) 0 (L.take k)) (L.getD k .z0).n = false := by
  have hg := chk_good hk
  have hx := (isMb_iff _).1 (hg.1 _ (hp.mem_iff.1 (getD_mb hkl)))
  have hd : L.Pairwise (fun a b => a.n ≠ b.n) := (hp.pairwise_iff (fun h => Ne.symm h)).2 (hg.2.imp fun h => h.1)
  unfold hasN
  rw [thN_test]
  have h2 : ((L.take k).any fun m => (bitN m.n).testBit (L.getD k .z0).n.toNat) = false := by
    rw [List.any_eq_false]
    intro m hm
    have hm2 := (isMb_iff m).1 (hg.1 m (hp.mem_iff.1 (List.mem_of_mem_take hm)))
    rw [bit_test hm2.1 (by omega)]
    have hne := take_before hd hkl m hm
    intro hq
    rw [beq_iff_eq] at hq
    omega
  rw [h2]
  simp

end Go.Proofs.Ytdjeafaaclhpkaa.M
