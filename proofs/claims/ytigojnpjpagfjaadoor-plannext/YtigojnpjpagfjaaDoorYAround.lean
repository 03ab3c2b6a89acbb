/-
  Own text: a chain that may be, from neighbour to neighbour, in plain words.
-/
import Derived.Test.YtigojnpjpagfjaaDoorYRefP
namespace Go.Proofs.YtigojnpjpagfjaaDoor.M
open Go.RowKit

/-- All nodes of members as a set. -/
def allN (ms : List Mb) : Nat := thN (fun _ => true) 0 ms

theorem thN_cons (x : Nat) (m : Mb) (l : List Mb) : thN (fun _ => true) x (m :: l) = thN (fun _ => true) (x ||| bitN m.n) l := rfl

theorem thN_app (x : Nat) : ∀ (l l' : List Mb), thN (fun _ => true) x (l ++ l') = thN (fun _ => true) (thN (fun _ => true) x l) l'
  | [], _ => rfl
  | m :: l, l' => by rw [List.cons_append, thN_cons, thN_cons, thN_app _ l l']

theorem allN_snoc {ms : List Mb} {k : Nat} (h : k < ms.length) : allN (ms.take (k + 1)) = allN (ms.take k) ||| bitN (ms.getD k .z0).n := by
  unfold allN
  rw [take_snoc_mb h, thN_app]
  rfl

theorem goC_app : ∀ (l l' : List Mb) (x : Nat) (t : Int), goC x t (l ++ l') = true → ∃ t', goC (thN (fun _ => true) x l) t' l' = true
  | [], l', x, t, h => ⟨t, h⟩
  | m :: l, l', x, t, h => by
    rw [List.cons_append] at h
    unfold goC at h
    simp only [Bool.and_eq_true] at h
    rw [thN_cons]
    exact goC_app l l' _ _ h.2.2.2

theorem goC_at {ms : List Mb} {k : Nat} (h : goC 0 0 ms = true) (hk : k < ms.length) : isMb (ms.getD k .z0) = true ∧ hasN (allN (ms.take k)) (ms.getD k .z0).n = false := by
  have e : ms = ms.take k ++ (ms.getD k .z0 :: ms.drop (k + 1)) := by rw [← drop_mb hk, List.take_append_drop]
  rw [e] at h
  obtain ⟨t', h2⟩ := goC_app _ _ _ _ h
  unfold goC at h2
  simp only [Bool.and_eq_true, Bool.not_eq_true'] at h2
  exact ⟨h2.1, h2.2.1⟩

theorem goC_lack : ∀ (l : List Mb) (x : Nat) (t : Int), goC x t l = true → lack (thN (fun _ => true) x l) + l.length = lack x
  | [], _, _, _ => rfl
  | m :: l, x, t, h => by
    unfold goC at h
    simp only [Bool.and_eq_true, Bool.not_eq_true'] at h
    have hm := (isMb_iff m).1 h.1
    have h1 := goC_lack l _ _ h.2.2.2
    have h2 := lack_step x m.n hm.1 hm.2.1 h.2.1
    rw [thN_cons, List.length_cons]
    omega

theorem thN_small : ∀ (l : List Mb) (x : Nat) (t : Int), goC x t l = true → x < 64 → thN (fun _ => true) x l < 64
  | [], _, _, _, hx => hx
  | m :: l, x, t, h, hx => by
    unfold goC at h
    simp only [Bool.and_eq_true, Bool.not_eq_true'] at h
    have hm := (isMb_iff m).1 h.1
    rw [thN_cons]
    refine thN_small l _ _ h.2.2.2 ?_
    obtain ⟨k, hk⟩ := Int.eq_ofNat_of_zero_le hm.1
    have hb : bitN m.n = 2 ^ k := by unfold bitN; rw [if_pos (by omega), hk, Int.toNat_natCast]
    rw [hb]
    exact Nat.or_lt_two_pow (n := 6) hx (Nat.pow_lt_pow_right (by decide) (by omega))

/-- How many bits a small word has. -/
def popS (x : Nat) : Nat := 6 - lack x

theorem goC_pop {ms : List Mb} (h : goC 0 0 ms = true) : popS (allN ms) = ms.length := by
  have h1 := goC_lack ms 0 0 h
  have h2 : lack 0 = 6 := by decide
  unfold popS allN
  omega

theorem hasN_thN (n : Int) (h0 : 0 ≤ n) (h6 : n < 6) : ∀ (l : List Mb) (x : Nat), (∀ m ∈ l, isMb m = true) → hasN (thN (fun _ => true) x l) n = (hasN x n || l.any fun m => m.n == n)
  | [], x, _ => by simp [thN]
  | m :: l, x, hl => by
    have hm := (isMb_iff m).1 (hl m (by simp))
    rw [thN_cons, hasN_thN n h0 h6 l _ (fun q hq => hl q (by simp [hq])), hasN_or x m.n n hm.1 hm.2.1 h0 h6, List.any_cons, Bool.or_assoc]

theorem goC_all {ms : List Mb} (h : goC 0 0 ms = true) : ∀ m ∈ ms, isMb m = true := fun m hm => by
  obtain ⟨k, hk, rfl⟩ := List.getElem_of_mem hm
  have := (goC_at h hk).1
  rwa [List.getD_eq_getElem?_getD, List.getElem?_eq_getElem hk] at this

theorem ixM_first (pr : Mb → Bool) : ∀ (l : List Mb) (k i : Nat), i < l.length → pr (l.getD i .z0) = true → (∀ j, j < i → pr (l.getD j .z0) = false) → ixM pr k l = ((k + i : Nat) : Int)
  | [], _, _, h, _, _ => absurd h (Nat.not_lt_zero _)
  | m :: l, k, 0, _, h, _ => by
    unfold ixM
    have : pr m = true := h
    rw [if_pos this]
    rfl
  | m :: l, k, i + 1, hi, h, hb => by
    unfold ixM
    have h0 : pr m = false := hb 0 (by omega)
    rw [h0, if_neg (by decide), ixM_first pr l (k + 1) i (by simpa using hi) h (fun j hj => hb (j + 1) (by omega))]
    congr 1
    omega

theorem plc_at {e : Int} {ms : List Mb} (hc : chk e ms = true) {k : Nat} (hk : k < ms.length) : plc e ms (ms.getD k .z0).n = (k : Int) := by
  have hg : goC 0 0 ms = true := by
    unfold chk at hc
    simp only [Bool.and_eq_true] at hc
    exact hc.2.2.2
  have hm := (goC_at hg hk)
  have hmb := (isMb_iff _).1 hm.1
  unfold plc
  rw [if_pos hc, ixM_first (fun m => m.n == (ms.getD k .z0).n) ms 0 k hk (by simp) (fun j hj => ?_), Nat.zero_add]
  have h2 := hm.2
  unfold allN at h2
  rw [hasN_thN _ hmb.1 hmb.2.1 _ 0 (fun q hq => goC_all hg q (List.mem_of_mem_take hq))] at h2
  simp only [Bool.or_eq_false_iff] at h2
  have h3 := List.any_eq_false.1 h2.2 (ms.getD j .z0) (by
    have : (ms.take k).getD j .z0 = ms.getD j .z0 := by rw [List.getD_eq_getElem?_getD, List.getD_eq_getElem?_getD, List.getElem?_take, if_pos hj]
    rw [← this]
    exact getD_mb (by rw [List.length_take]; omega))
  simpa using h3

/-- Who stands at a place, or nobody. -/
theorem next_at {e : Int} {ms : List Mb} (hc : chk e ms = true) {k : Nat} (hk : k < ms.length) (by_ : Int) : offM e ms (ms.getD k .z0).n by_ = atM ms ((k : Int) + by_) := by
  unfold offM
  rw [plc_at hc hk, if_neg (by omega)]

theorem atM_lt {ms : List Mb} {k : Nat} (hk : k < ms.length) : atM ms (k : Int) = (ms.getD k .z0).n := by
  unfold atM
  rw [if_pos (by omega), Int.toNat_natCast]

end Go.Proofs.YtigojnpjpagfjaaDoor.M
