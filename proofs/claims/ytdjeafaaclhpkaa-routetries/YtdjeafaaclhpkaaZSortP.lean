/-
  Own text: a stable sort by insertion, in plain words: what it makes is each key's members in their order, key by key.
-/
import Derived.Test.YtdjeafaaclhpkaaYSort
import Derived.Test.YtdjeafaaclhpkaaZNr
namespace Go.Proofs.Ytdjeafaaclhpkaa.M

/-- One member goes ahead as long as it is to stand ahead of the one ahead, down to a. -/
def innC (cz : Mb → Mb → Int) (a : Nat) : Nat → List Mb → List Mb
  | 0, L => L
  | j + 1, L => if a < j + 1 ∧ cz (L.getD (j + 1) .z0) (L.getD j .z0) < 0 then innC cz a j (swp L j) else L

theorem innC_len (cz : Mb → Mb → Int) (a : Nat) : ∀ (j : Nat) (L : List Mb), (innC cz a j L).length = L.length
  | 0, _ => rfl
  | j + 1, L => by
    unfold innC
    split
    · rw [innC_len cz a j, swp_len]
    · rfl

/-- So many members, from the i-th on, each go ahead. -/
def outC (cz : Mb → Mb → Int) (a : Nat) : Nat → Nat → List Mb → List Mb
  | 0, _, L => L
  | k + 1, i, L => outC cz a k (i + 1) (innC cz a i L)

theorem outC_len (cz : Mb → Mb → Int) (a : Nat) : ∀ (k i : Nat) (L : List Mb), (outC cz a k i L).length = L.length
  | 0, _, _ => rfl
  | k + 1, i, L => by
    unfold outC
    rw [outC_len cz a k, innC_len]

/-- One member into a row that is turned around. -/
def insB (cz : Mb → Mb → Int) (x : Mb) : List Mb → List Mb
  | [] => [x]
  | y :: r => if cz x y < 0 then y :: insB cz x r else x :: y :: r

theorem getD_app_left (r : List Mb) (x : Mb) (post : List Mb) : (r ++ x :: post).getD r.length .z0 = x := by
  rw [List.getD_eq_getElem?_getD, List.getElem?_append_right (Nat.le_refl _), Nat.sub_self]
  rfl

theorem getD_app_next (r : List Mb) (x y : Mb) (post : List Mb) : (r ++ x :: y :: post).getD (r.length + 1) .z0 = y := by
  rw [List.getD_eq_getElem?_getD, List.getElem?_append_right (by omega), Nat.add_sub_cancel_left]
  rfl

theorem swp_app (r : List Mb) (x y : Mb) (post : List Mb) : swp (r ++ x :: y :: post) r.length = r ++ y :: x :: post := by
  unfold swp
  rw [getD_app_left, getD_app_next, List.set_append_right _ _ (by omega), Nat.add_sub_cancel_left]
  simp only [List.set_cons_succ, List.set_cons_zero]
  rw [List.set_append_right _ _ (Nat.le_refl _), Nat.sub_self]
  rfl

theorem innC_ins (cz : Mb → Mb → Int) (x : Mb) : ∀ (r post : List Mb), innC cz 0 r.length (r.reverse ++ x :: post) = (insB cz x r).reverse ++ post
  | [], post => rfl
  | y :: r, post => by
    have e : (y :: r).reverse ++ x :: post = r.reverse ++ y :: x :: post := by simp
    have hl : r.reverse.length = r.length := List.length_reverse
    rw [e, List.length_cons, innC, ← hl, getD_app_next, getD_app_left]
    unfold insB
    by_cases h : cz x y < 0
    · rw [if_pos ⟨Nat.succ_pos _, h⟩, if_pos h, swp_app, hl, innC_ins cz x r (y :: post)]
      simp
    · rw [if_neg (fun k => h k.2), if_neg h]
      simp

theorem insB_len (cz : Mb → Mb → Int) (x : Mb) : ∀ r, (insB cz x r).length = r.length + 1
  | [] => rfl
  | y :: r => by
    unfold insB
    split
    · rw [List.length_cons, insB_len cz x r, List.length_cons]
    · rfl

theorem outC_ins (cz : Mb → Mb → Int) : ∀ (post r : List Mb), outC cz 0 post.length r.length (r.reverse ++ post) = (post.foldl (fun r x => insB cz x r) r).reverse
  | [], r => by simp [outC]
  | x :: post, r => by
    rw [List.length_cons, outC, innC_ins, ← insB_len cz x r, outC_ins cz post, List.foldl_cons]

/-- Sorted, what the library's sort of few members makes. -/
def srt (cz : Mb → Mb → Int) : List Mb → List Mb
  | [] => []
  | x :: l => (l.foldl (fun r x => insB cz x r) [x]).reverse

theorem outC_srt (cz : Mb → Mb → Int) (L : List Mb) : outC cz 0 (L.length - 1) 1 L = srt cz L := by
  cases L with
  | nil => rfl
  | cons x l => exact outC_ins cz l [x]

/-- By keys: those of each key in their order. -/
def bk (key : Mb → Nat) (K : Nat) (L : List Mb) : List Mb := (List.range K).flatMap fun k => L.filter fun m => key m == k

theorem bk_succ (key : Mb → Nat) (K : Nat) (L : List Mb) : bk key (K + 1) L = bk key K L ++ L.filter fun m => key m == K := by
  unfold bk
  rw [List.range_succ, List.flatMap_append, List.flatMap_cons, List.flatMap_nil, List.append_nil]

theorem split_sorted (key : Mb → Nat) (K : Nat) : ∀ (L : List Mb), L.Pairwise (fun a b => key a ≤ key b) → (∀ m ∈ L, key m < K + 1) → L = (L.filter fun m => decide (key m < K)) ++ L.filter fun m => key m == K
  | [], _, _ => rfl
  | m :: l, hp, hk => by
    rw [List.pairwise_cons] at hp
    have ih := split_sorted key K l hp.2 fun a ha => hk a (List.mem_cons_of_mem _ ha)
    have hm := hk m (by simp)
    rcases Nat.lt_or_ge (key m) K with h | h
    · rw [List.filter_cons_of_pos (by simpa using h), List.filter_cons_of_neg (by simp; omega), List.cons_append, ← ih]
    · have e : key m = K := by omega
      have h0 : (l.filter fun m => decide (key m < K)) = [] := by
        rw [List.filter_eq_nil_iff]
        intro a ha
        have := hp.1 a ha
        simp
        omega
      rw [List.filter_cons_of_neg (by simp; omega), List.filter_cons_of_pos (by simpa using e), h0, List.nil_append]
      rw [h0, List.nil_append] at ih
      rw [← ih]

theorem bk_filter (key : Mb → Nat) (K : Nat) (L : List Mb) : bk key K (L.filter fun m => decide (key m < K)) = bk key K L := by
  unfold bk
  have h : ∀ k ∈ List.range K, ((L.filter fun m => decide (key m < K)).filter fun m => key m == k) = L.filter fun m => key m == k := by
    intro k hk
    rw [List.mem_range] at hk
    rw [List.filter_filter]
    apply List.filter_congr
    intro m _
    by_cases e : key m = k
    · simp [e, hk]
    · simp [e]
  generalize List.range K = r at h
  induction r with
  | nil => rfl
  | cons k r ih => rw [List.flatMap_cons, List.flatMap_cons, h k (by simp), ih fun j hj => h j (List.mem_cons_of_mem _ hj)]

theorem bk_sorted (key : Mb → Nat) : ∀ (K : Nat) (L : List Mb), L.Pairwise (fun a b => key a ≤ key b) → (∀ m ∈ L, key m < K) → bk key K L = L
  | 0, L, _, hk => by
    cases L with
    | nil => rfl
    | cons m l => exact absurd (hk m (by simp)) (Nat.not_lt_zero _)
  | K + 1, L, hp, hk => by
    rw [bk_succ, ← bk_filter, bk_sorted key K _ (hp.sublist List.filter_sublist) (fun m hm => by simpa using (List.mem_filter.1 hm).2)]
    exact (split_sorted key K L hp hk).symm

/-- The comparison is by keys. -/
def ByKey (cz : Mb → Mb → Int) (key : Mb → Nat) (L : List Mb) : Prop := ∀ a ∈ L, ∀ b ∈ L, (cz a b < 0 ↔ key a < key b)

theorem insB_mem (cz : Mb → Mb → Int) (x m : Mb) : ∀ r, m ∈ insB cz x r ↔ m = x ∨ m ∈ r
  | [] => by simp [insB]
  | y :: r => by
    unfold insB
    split
    · simp only [List.mem_cons, insB_mem cz x m r]
      constructor <;> (rintro (h | h | h) <;> simp [h])
    · simp

theorem insB_sorted {cz : Mb → Mb → Int} {key : Mb → Nat} (x : Mb) : ∀ r : List Mb, (∀ y ∈ r, (cz x y < 0 ↔ key x < key y)) → r.Pairwise (fun a b => key b ≤ key a) → (insB cz x r).Pairwise (fun a b => key b ≤ key a)
  | [], _, _ => by simp [insB]
  | y :: r, hc, hp => by
    rw [List.pairwise_cons] at hp
    unfold insB
    have hy := hc y (by simp)
    by_cases h : cz x y < 0
    · rw [if_pos h, List.pairwise_cons]
      refine ⟨fun a ha => ?_, insB_sorted x r (fun z hz => hc z (List.mem_cons_of_mem _ hz)) hp.2⟩
      rcases (insB_mem cz x a r).1 ha with rfl | h2
      · have := hy.1 h; omega
      · exact hp.1 a h2
    · rw [if_neg h, List.pairwise_cons, List.pairwise_cons]
      have hn : ¬ key x < key y := fun k => h (hy.2 k)
      refine ⟨fun a ha => ?_, hp⟩
      rcases List.mem_cons.1 ha with rfl | h2
      · omega
      · have := hp.1 a h2; omega

theorem insB_filter {cz : Mb → Mb → Int} {key : Mb → Nat} (x : Mb) (k : Nat) : ∀ r : List Mb, (∀ y ∈ r, (cz x y < 0 ↔ key x < key y)) → r.Pairwise (fun a b => key b ≤ key a) → (insB cz x r).filter (fun m => key m == k) = (x :: r).filter (fun m => key m == k)
  | [], _, _ => rfl
  | y :: r, hc, hp => by
    rw [List.pairwise_cons] at hp
    unfold insB
    have hy := hc y (by simp)
    by_cases h : cz x y < 0
    · have hk := hy.1 h
      rw [if_pos h]
      have ih := insB_filter (key := key) x k r (fun z hz => hc z (List.mem_cons_of_mem _ hz)) hp.2
      rw [List.filter_cons, ih, List.filter_cons, List.filter_cons, List.filter_cons]
      by_cases e : key x = k
      · have e2 : ¬ key y = k := by omega
        simp [e, e2]
      · simp [e]
    · rw [if_neg h]

theorem fold_ins {cz : Mb → Mb → Int} {key : Mb → Nat} {U : List Mb} (hc : ByKey cz key U) : ∀ (l r : List Mb), (∀ m ∈ l, m ∈ U) → (∀ m ∈ r, m ∈ U) → r.Pairwise (fun a b => key b ≤ key a) →
    (l.foldl (fun r x => insB cz x r) r).Pairwise (fun a b => key b ≤ key a) ∧ (∀ m, m ∈ l.foldl (fun r x => insB cz x r) r ↔ m ∈ r ∨ m ∈ l) ∧ ∀ k, ((l.foldl (fun r x => insB cz x r) r).reverse.filter fun m => key m == k) = (r.reverse ++ l).filter fun m => key m == k
  | [], r, _, _, hp => ⟨hp, fun m => by simp, fun k => by simp⟩
  | x :: l, r, hl, hr, hp => by
    have hx : ∀ y ∈ r, (cz x y < 0 ↔ key x < key y) := fun y hy => hc x (hl x (by simp)) y (hr y hy)
    have h1 := insB_sorted x r hx hp
    obtain ⟨g1, g2, g3⟩ := fold_ins hc l (insB cz x r) (fun m hm => hl m (List.mem_cons_of_mem _ hm)) (fun m hm => by
      rcases (insB_mem cz x m r).1 hm with rfl | h
      · exact hl _ (by simp)
      · exact hr m h) h1
    refine ⟨g1, fun m => ?_, fun k => ?_⟩
    · rw [List.foldl_cons, g2, insB_mem]
      simp only [List.mem_cons]
      constructor
      · rintro ((h | h) | h) <;> simp [h]
      · rintro (h | h | h) <;> simp [h]
    · rw [List.foldl_cons, g3, List.filter_append, List.filter_reverse, insB_filter x k r hx hp, ← List.filter_reverse, List.reverse_cons]
      rw [← List.filter_append, List.append_assoc]
      rfl

theorem srt_bk {cz : Mb → Mb → Int} {key : Mb → Nat} {L : List Mb} (hc : ByKey cz key L) (K : Nat) (hk : ∀ m ∈ L, key m < K) : srt cz L = bk key K L := by
  cases L with
  | nil => unfold bk; simp [srt]
  | cons x l =>
    obtain ⟨g1, g2, g3⟩ := fold_ins hc l [x] (fun m hm => List.mem_cons_of_mem _ hm) (fun m hm => by simp at hm; simp [hm]) (by simp)
    have hs : (srt cz (x :: l)).Pairwise (fun a b => key a ≤ key b) := by
      unfold srt
      rw [List.pairwise_reverse]
      exact g1
    have hm : ∀ m ∈ srt cz (x :: l), key m < K := by
      intro m hm
      unfold srt at hm
      rw [List.mem_reverse, g2] at hm
      exact hk m (by simpa using hm)
    rw [← bk_sorted key K _ hs hm]
    unfold bk
    congr 1
    funext k
    unfold srt
    rw [g3 k]
    rfl

theorem srt_len (cz : Mb → Mb → Int) (L : List Mb) : (srt cz L).length = L.length := by rw [← outC_srt, outC_len]

end Go.Proofs.Ytdjeafaaclhpkaa.M
