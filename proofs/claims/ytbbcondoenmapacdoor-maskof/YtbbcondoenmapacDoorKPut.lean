/-
  Own text: contracts of the reference's Put and of slices.Contains over ints; what a set of numbers has.
-/
import Derived.Test.YtbbcondoenmapacDoorKAll
namespace Go.Proofs.YtbbcondoenmapacDoor.M
open Go.ChangeShapes Go.WideShapes Go.ChangeAt Go.RowKit

/-- The answers with one of them put. -/
def putB (bs : List Bool) (n : Int) (b : Bool) : List Bool := if 0 ≤ n ∧ n < 64 then bs.set n.toNat b else bs

theorem putB_len {bs : List Bool} (h : bs.length = 64) (n : Int) (b : Bool) : (putB bs n b).length = 64 := by
  unfold putB
  split
  · rw [List.length_set]; exact h
  · exact h

theorem bitL_set (x k : Nat) (b : Bool) (y : Nat) (_hk : k < 64) (hy : ∀ j, j < 64 → y.testBit j = if j = k then b else x.testBit j) : (bitL x).set k b = bitL y := by
  apply List.ext_getElem
  · simp [bitL]
  · intro i h1 h2
    have hi : i < 64 := by simpa [bitL] using h2
    rw [List.getElem_set]
    simp only [bitL, List.getElem_map, List.getElem_range]
    rw [hy i hi]
    by_cases h : k = i
    · rw [if_pos h, if_pos h.symm]
    · rw [if_neg h, if_neg (fun e => h e.symm)]

theorem putB_true (x : Nat) (n : Int) : putB (bitL x) n true = bitL (x ||| bitN n) := by
  unfold putB bitN
  by_cases h : 0 ≤ n ∧ n < 64
  · rw [if_pos h, if_pos h]
    apply bitL_set x n.toNat true _ (by omega)
    intro j hj
    rw [Nat.testBit_or, Nat.testBit_two_pow]
    by_cases e : j = n.toNat
    · rw [if_pos e, decide_eq_true e.symm, Bool.or_true]
    · rw [if_neg e, decide_eq_false (fun h => e h.symm), Bool.or_false]
  · rw [if_neg h, if_neg h, Nat.or_zero]

theorem putB_false (x : Nat) (n : Int) (hx : x < 18446744073709551616) : putB (bitL x) n false = bitL (x &&& (18446744073709551615 - bitN n)) := by
  unfold putB bitN
  by_cases h : 0 ≤ n ∧ n < 64
  · rw [if_pos h, if_pos h]
    apply bitL_set x n.toNat false _ (by omega)
    intro j hj
    rw [without_bit (by omega) j hj]
    by_cases e : j = n.toNat
    · rw [if_pos e]; simp [e]
    · rw [if_neg e]; simp [e]
  · rw [if_neg h, if_neg h, Nat.sub_zero]
    congr 1
    have e : (18446744073709551615 : Nat) = 2 ^ 64 - 1 := rfl
    rw [e, Nat.and_two_pow_sub_one_eq_mod, Nat.mod_eq_of_lt hx]

theorem bools_get (bs : List Bool) {k : Nat} (h : k < bs.length) : (bools bs)[k]? = some (.bool (bs.getD k false)) := by
  rw [bools, List.getElem?_toArray, List.getElem?_map, List.getD_eq_getElem?_getD, List.getElem?_eq_getElem h]
  rfl

theorem bools_set (bs : List Bool) (k : Nat) (b : Bool) : (bools bs).setIfInBounds k (.bool b) = bools (bs.set k b) := by
  unfold bools
  rw [List.map_set, List.setIfInBounds_toArray]

/-- A row is read whole, put into the result's block, and returned. -/
theorem two_arrs (w : World) (xs : List Bool) : Arr ((w.alloc (.cells (bools xs) 25)).alloc (.cells (bools (List.replicate 64 false)) 25)) w.heap.size xs ∧ Arr ((w.alloc (.cells (bools xs) 25)).alloc (.cells (bools (List.replicate 64 false)) 25)) (w.heap.size + 1) (List.replicate 64 false) ∧ Below w.heap.size w ((w.alloc (.cells (bools xs) 25)).alloc (.cells (bools (List.replicate 64 false)) 25)) := by
  refine ⟨?_, ?_, ((Below.refl _ _).alloc (Nat.le_refl _) _).alloc (by simp) _⟩
  · have h1 : Arr (w.alloc (.cells (bools xs) 25)) w.heap.size xs := heap_alloc_new _ _
    exact h1.below (below_alloc _ _)
  · have h3 : (w.alloc (.cells (bools xs) 25)).heap.size = w.heap.size + 1 := by simp
    have h4 : Arr ((w.alloc (.cells (bools xs) 25)).alloc (.cells (bools (List.replicate 64 false)) 25)) _ (List.replicate 64 false) := heap_alloc_new _ _
    rw [h3] at h4
    exact h4

set_option maxRecDepth 20000 in
set_option maxHeartbeats 400000 in
theorem put_in (bs : List Bool) (k : Nat) (b : Bool) (w : World) (hl : bs.length = 64) (hk : k < 64) :
    Calls Tryd.prog 8 #[.agg (bools bs), .int .i64 k, .bool b] w fun e w' => e = .returned (.agg (bools (bs.set k b))) ∧ Below w.heap.size w w' := by
  have hi := info_set (bs.set k b) (by rw [List.length_set]; exact hl)
  have hck := bools_get bs (k := k) (by omega)
  have hcs := bools_set bs k b
  obtain ⟨hA, hZ, hb⟩ := two_arrs w (bs.set k b)
  have hZ2 := hZ.setRow (bs.set k b)
  have hb2 := hb.trans (below_setRow _ (w.heap.size + 1) (bools (bs.set k b)) (by omega))
  have hk0 : (k : Int) < 64 := by omega
  have hz : (bools (List.replicate 64 false)).size = (bools (bs.set k b)).size := by rw [bools_size, bools_size, List.length_set, hl]; rfl
  go_enter Tryd.func8, Tryd.ntmps8
  go_wp2_with (first | refine wpList_load_row rfl 25 _ rfl w.heap.size rfl _ _ _ _ hA Tryd.underlying25 rfl hi ?_ | refine wpList_store_row rfl 25 _ _ rfl (w.heap.size + 1) _ rfl rfl _ _ hZ hi hz (bools_one _) ?_)
  exact bodyPost_ret (results_cell_row (p := 6) rfl _ _ (w.heap.size + 1) _ _ _ _ rfl hZ2 Tryd.underlying25 rfl hi) rfl ⟨rfl, hb2⟩

set_option maxRecDepth 20000 in
set_option maxHeartbeats 400000 in
theorem put_out (bs : List Bool) (n : Int) (b : Bool) (w : World) (hl : bs.length = 64) (hn : n < 0 ∨ 64 ≤ n) :
    Calls Tryd.prog 8 #[.agg (bools bs), .int .i64 n, .bool b] w fun e w' => e = .returned (.agg (bools bs)) ∧ Below w.heap.size w w' := by
  have hi := info_set bs hl
  obtain ⟨hA, hZ, hb⟩ := two_arrs w bs
  have hZ2 := hZ.setRow bs
  have hb2 := hb.trans (below_setRow _ (w.heap.size + 1) (bools bs) (by omega))
  have hz : (bools (List.replicate 64 false)).size = (bools bs).size := by rw [bools_size, bools_size, hl]; rfl
  rcases hn with h | h
  · have hd : decide (0 ≤ n) = false := decide_eq_false (by omega)
    go_enter Tryd.func8, Tryd.ntmps8
    go_wp2_with (first | refine wpList_load_row rfl 25 _ rfl w.heap.size rfl _ _ _ _ hA Tryd.underlying25 rfl hi ?_ | refine wpList_store_row rfl 25 _ _ rfl (w.heap.size + 1) _ rfl rfl _ _ hZ hi hz (bools_one _) ?_)
    exact bodyPost_ret (results_cell_row (p := 6) rfl _ _ (w.heap.size + 1) _ _ _ _ rfl hZ2 Tryd.underlying25 rfl hi) rfl ⟨rfl, hb2⟩
  · have hd : decide (n < 64) = false := decide_eq_false (by omega)
    have hd0 : decide (0 ≤ n) = true := decide_eq_true (by omega)
    go_enter Tryd.func8, Tryd.ntmps8
    go_wp2_with (first | refine wpList_load_row rfl 25 _ rfl w.heap.size rfl _ _ _ _ hA Tryd.underlying25 rfl hi ?_ | refine wpList_store_row rfl 25 _ _ rfl (w.heap.size + 1) _ rfl rfl _ _ hZ hi hz (bools_one _) ?_)
    exact bodyPost_ret (results_cell_row (p := 6) rfl _ _ (w.heap.size + 1) _ _ _ _ rfl hZ2 Tryd.underlying25 rfl hi) rfl ⟨rfl, hb2⟩

theorem put_any (bs : List Bool) (n : Int) (b : Bool) (w : World) (hl : bs.length = 64) :
    Calls Tryd.prog 8 #[.agg (bools bs), .int .i64 n, .bool b] w fun e w' => e = .returned (.agg (bools (putB bs n b))) ∧ Below w.heap.size w w' := by
  unfold putB
  by_cases h : 0 ≤ n ∧ n < 64
  · obtain ⟨k, rfl⟩ := Int.eq_ofNat_of_zero_le h.1
    rw [if_pos h, Int.toNat_natCast]
    exact put_in bs k b w hl (by omega)
  · rw [if_neg h]
    exact put_out bs n b w hl (by omega)

/-- A set of numbers has just those. -/
theorem ofN_bit (l : List Int) : ∀ j, j < 64 → (ofN l).testBit j = l.contains (j : Int) := by
  have key : ∀ (l : List Int) (s j : Nat), j < 64 → (l.foldl (fun s n => s ||| bitN n) s).testBit j = (s.testBit j || l.contains (j : Int)) := by
    intro l
    induction l with
    | nil => intro s j _; simp
    | cons y r ih =>
      intro s j hj
      rw [List.foldl_cons, ih _ j hj, Nat.testBit_or, List.contains_cons, Bool.or_assoc]
      congr 2
      unfold bitN
      by_cases h : 0 ≤ y ∧ y < 64
      · rw [if_pos h, Nat.testBit_two_pow]
        by_cases e : y = (j : Int)
        · subst e; simp
        · have h2 : y.toNat ≠ j := by omega
          rw [decide_eq_false h2]
          symm
          rw [beq_eq_false_iff_ne]
          exact fun h => e h.symm
      · rw [if_neg h, Nat.zero_testBit]
        symm
        rw [beq_eq_false_iff_ne]
        omega
  intro j hj
  have := key l 0 j hj
  rw [Nat.zero_testBit, Bool.false_or] at this
  exact this

set_option maxRecDepth 20000 in
theorem index_any (p : Option Addr) (n c : Nat) (ls : List Int) (v : Int) (w : World) (hr : Rd .i64 w p n c ls) (hn : n ≤ 1099511627776) :
    Calls Tryd.prog 34 #[.slice p n c, .int .i64 v] w fun e w' => ∃ r : Int, e = .returned (.int .i64 r) ∧ decide (0 ≤ r) = ls.contains v ∧ Below w.heap.size w w' := by
  have hl := hr.len
  go_enter Tryd.func34, Tryd.ntmps34
  go_wp2_with fail
  go_loopw [8] (fun i wr => ∃ k : Nat, k ≤ n ∧ i = .int .i64 k ∧ Hid (∀ j, j < k → ls.getD j 0 ≠ v) ∧ Below w.heap.size w wr) (fun i _ => n - (intOf i).toNat)
  case atStart => exact ⟨0, Nat.zero_le _, rfl, fun j hj => absurd hj (Nat.not_lt_zero _), Below.refl _ _⟩
  case round =>
    obtain ⟨k, hk, rfl, hno, hb⟩ := hrel
    by_cases h : k < n
    · obtain ⟨b, o, rfl, hc⟩ := (hr.below hb).cells (by omega)
      have h1 := hc k h
      have hkn : (k : Int) < (n : Int) := by omega
      clear hc hr
      generalize hz : ls.getD k 0 = z at h1
      by_cases hv : v = z
      · have hm : ls.contains v = true := by
          rw [List.contains_iff_mem, hv, ← hz]
          exact getD_mem (by omega)
        have HM : Hid (ls.contains v = true) := hm
        subst hv
        clear hm hz
        go_wp2_with fail
        go_ret
        exact ⟨k, rfl, by rw [HM.out]; exact decide_eq_true (by omega), hb⟩
      · have hv2 : (v == z) = false := by rw [beq_eq_false_iff_ne]; exact hv
        have hno2 : Hid (∀ j, j < k + 1 → ls.getD j 0 ≠ v) := fun j hj => by
          rcases Nat.lt_or_ge j k with h3 | h3
          · exact hno.out j h3
          · obtain rfl : j = k := by omega
            rw [hz]
            exact fun e => hv e.symm
        clear hno hz
        go_wp2_with fail
        go_roundw
        case rel => exact ⟨k + 1, by omega, by go_num, hno2, hb⟩
        case measure => simp [intOf]; omega
    · obtain rfl : k = n := by omega
      have hm : ls.contains v = false := by
        rw [Bool.eq_false_iff]
        intro h4
        rw [List.contains_iff_mem] at h4
        obtain ⟨j, hj, e⟩ := List.getElem_of_mem h4
        apply hno.out j (by omega)
        rw [List.getD_eq_getElem?_getD, List.getElem?_eq_getElem hj]
        exact e
      have HM : Hid (ls.contains v = false) := hm
      clear hr hm hno
      go_wp2
      go_ret
      exact ⟨-1, rfl, by rw [HM.out]; rfl, hb⟩

set_option maxRecDepth 20000 in
theorem contains_any (p : Option Addr) (n c : Nat) (ls : List Int) (v : Int) (w : World) (hr : Rd .i64 w p n c ls) (hn : n ≤ 1099511627776) :
    Calls Tryd.prog 12 #[.slice p n c, .int .i64 v] w fun e w' => e = .returned (.bool (ls.contains v)) ∧ Below w.heap.size w w' := by
  have cI := index_any p n c ls v w hr hn
  generalize ls.contains v = z at cI ⊢
  clear hr
  go_enter Tryd.func12, Tryd.ntmps12
  go_wp2_with fail
  refine cI.mono ?_
  rintro e w1 ⟨r, rfl, hd, hb⟩
  have HD : Hid (decide (0 ≤ r) = z) := hd
  clear hd
  go_wp2_with fail
  go_ret
  exact ⟨ret_bool HD.out, hb⟩

end Go.Proofs.YtbbcondoenmapacDoor.M
