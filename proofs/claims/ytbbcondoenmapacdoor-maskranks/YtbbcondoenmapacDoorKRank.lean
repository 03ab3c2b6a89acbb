/-
  Own text: contracts of the reference's Rank and At.
-/
import Derived.Test.YtbbcondoenmapacDoorKAll
namespace Go.Proofs.YtbbcondoenmapacDoor.M
open Go.ChangeShapes Go.WideShapes Go.ChangeAt Go.RowKit

/-- How many numbers of a list are below one. -/
def ltc (n : Int) (l : List Int) : Nat := (l.filter fun m => decide (m < n)).length

theorem ltc_le (n : Int) (l : List Int) : ltc n l ≤ l.length := List.length_filter_le _ _

theorem ltc_snoc (n : Int) (l : List Int) (z : Int) : ltc n (l ++ [z]) = ltc n l + (if z < n then 1 else 0) := by
  unfold ltc
  rw [List.filter_append, List.length_append]
  congr 1
  by_cases h : z < n
  · simp [h]
  · simp [h]

theorem ltc_all (n : Int) (p : Nat → Bool) : ∀ m, ltc n (allL p m) = cnt (fun i => p i && decide ((i : Int) < n)) m
  | 0 => rfl
  | m + 1 => by
    show _ = cnt (fun i => p i && decide ((i : Int) < n)) m + (p m && decide ((m : Int) < n)).toNat
    rw [← ltc_all n p m]
    cases hp : p m with
    | false => rw [allL_skip hp]; rfl
    | true =>
      rw [allL_step hp, ltc_snoc]
      by_cases h : (m : Int) < n
      · rw [if_pos h, decide_eq_true h]; rfl
      · rw [if_neg h, decide_eq_false h]; rfl

theorem ltc_rank (x : Nat) (n : Int) : ltc n (allL (bt x) 64) = rankN x n := by
  rw [ltc_all]
  unfold rankN rk
  obtain ⟨k, hk⟩ := Nat.exists_eq_add_of_le (Nat.min_le_right n.toNat 64)
  rw [show cnt (fun i => bt x i && decide ((i : Int) < n)) 64 = cnt (fun i => bt x i && decide ((i : Int) < n)) (min n.toNat 64 + k) by rw [← hk], cnt_add]
  have e1 : cnt (fun i => bt x i && decide ((i : Int) < n)) (min n.toNat 64) = cnt (bt x) (min n.toNat 64) := by
    apply cnt_congr
    intro i hi
    rw [decide_eq_true (by omega), Bool.and_true]
  have e2 : cnt (fun i => bt x (min n.toNat 64 + i) && decide (((min n.toNat 64 + i : Nat) : Int) < n)) k = cnt (fun _ => false) k := by
    apply cnt_congr
    intro i hi
    rw [decide_eq_false (by omega), Bool.and_false]
  rw [e1, e2, cnt_false]
  rfl

set_option maxRecDepth 20000 in
theorem rrank_any (x : Nat) (n : Int) (w : World) :
    Calls Tryd.prog 23 #[.agg (bools (bitL x)), .int .i64 n] w fun e w' => e = .returned (.int .i64 (rankN x n)) ∧ Below w.heap.size w w' := by
  have hA : Arr (w.alloc (.cells (bools (bitL x)) 25)) w.heap.size (bitL x) := heap_alloc_new _ _
  have hi := info_set (bitL x) (bitL_len x)
  have c1 := fun W => rall_any x W
  have hb0 : Below w.heap.size w (w.alloc (.cells (bools (bitL x)) 25)) := below_alloc _ _
  have hp64 := pop_le x
  generalize bitL x = bs at hA hi c1 hb0 ⊢
  have HR : Hid (ltc n (allL (bt x) 64) = rankN x n) := ltc_rank x n
  go_enter Tryd.func23, Tryd.ntmps23
  go_wp2_with (refine wpList_load_row rfl 25 _ rfl w.heap.size rfl _ _ _ _ hA Tryd.underlying25 rfl hi ?_)
  refine (c1 _).mono ?_
  rintro e w1 ⟨p, c, rfl, hr, hb⟩
  have hb1 := hb0.trans (hb.mono hb0.size)
  clear hb hb0 hA c1 hi
  generalize allL (bt x) 64 = ls at hr HR
  generalize hpx : pop x = px at hr hp64
  clear hpx
  have hl := hr.len
  go_wp2_with fail
  go_loopw [5, 11] (fun v i wr => ∃ k : Nat, k ≤ px ∧ i = .int .i64 k ∧ v = .int .i64 (ltc n (ls.take k)) ∧ wr = w1) (fun _ i _ => px - (intOf i).toNat)
  case atStart => exact ⟨0, Nat.zero_le _, rfl, rfl, rfl⟩
  case round =>
    obtain ⟨k, hk, rfl, rfl, rfl⟩ := hrel
    by_cases h : k < px
    · obtain ⟨b, o, rfl, hc⟩ := hr.cells (by omega)
      have hcx := hc k h
      have hS : Hid (ltc n (ls.take (k + 1)) = ltc n (ls.take k) + (if ls.getD k 0 < n then 1 else 0)) := by
        show _ = _
        rw [take_snoc (by omega), ltc_snoc]
      have hle : ltc n (ls.take k) ≤ 64 := Nat.le_trans (ltc_le _ _) (by rw [List.length_take]; omega)
      clear hc hr hl
      generalize ltc n (ls.take k) = v at hS hle
      generalize ls.getD k 0 = z at hcx hS
      by_cases hz : z < n
      · have hS2 : Hid (ltc n (ls.take (k + 1)) = v + 1) := by show _ = _; rw [hS.out, if_pos hz]
        clear hS
        go_wp2_with fail
        go_roundw
        case rel => exact ⟨k + 1, by omega, by go_num, by rw [hS2.out]; go_num, trivial⟩
        case measure => simp [intOf]; omega
      · have hS2 : Hid (ltc n (ls.take (k + 1)) = v) := by show _ = _; rw [hS.out, if_neg hz]; rfl
        have hz2 : decide (z < n) = false := decide_eq_false hz
        clear hS
        go_wp2_with fail
        go_roundw
        case rel => exact ⟨k + 1, by omega, by go_num, by rw [hS2.out], trivial⟩
        case measure => simp [intOf]; omega
    · obtain rfl : k = px := by omega
      have e1 : ls.take k = ls := List.take_of_length_le (by omega)
      rw [e1]
      clear hr
      go_wp2
      go_ret
      exact ⟨ret_int (by rw [HR.out]), hb1⟩

set_option maxRecDepth 20000 in
theorem rat_any (x i : Nat) (w : World) (hi0 : i < pop x) :
    Calls Tryd.prog 25 #[.agg (bools (bitL x)), .int .i64 i] w fun e w' => e = .returned (.int .i64 ((allL (bt x) 64).getD i 0)) ∧ Below w.heap.size w w' := by
  have hA : Arr (w.alloc (.cells (bools (bitL x)) 25)) w.heap.size (bitL x) := heap_alloc_new _ _
  have hi := info_set (bitL x) (bitL_len x)
  have c1 := fun W => rall_any x W
  have hb0 : Below w.heap.size w (w.alloc (.cells (bools (bitL x)) 25)) := below_alloc _ _
  have hp64 := pop_le x
  generalize bitL x = bs at hA hi c1 hb0 ⊢
  go_enter Tryd.func25, Tryd.ntmps25
  go_wp2_with (refine wpList_load_row rfl 25 _ rfl w.heap.size rfl _ _ _ _ hA Tryd.underlying25 rfl hi ?_)
  refine (c1 _).mono ?_
  rintro e w1 ⟨p, c, rfl, hr, hb⟩
  have hb1 := hb0.trans (hb.mono hb0.size)
  clear hb hb0 hA c1 hi
  obtain ⟨b, o, rfl, hc⟩ := hr.cells (by omega)
  have hcx := hc i hi0
  clear hc hr
  generalize hz : (allL (bt x) 64).getD i 0 = z at hcx
  have HZ : Hid ((allL (bt x) 64).getD i 0 = z) := hz
  clear hz
  generalize pop x = px at hp64 hi0
  have hd1 : decide ((i : Int) < 0) = false := decide_eq_false (by omega)
  have hd2 : decide ((px : Int) ≤ (i : Int)) = false := decide_eq_false (by omega)
  have hd3 : decide (px ≤ i) = false := decide_eq_false (by omega)
  have hip : (i : Int) < (px : Int) := by omega
  go_wp2_with fail
  go_ret
  exact ⟨ret_int HZ.out.symm, hb1⟩

set_option maxRecDepth 20000 in
theorem rat_none (x : Nat) (i : Int) (w : World) (hi0 : i < 0 ∨ (pop x : Int) ≤ i) :
    Calls Tryd.prog 25 #[.agg (bools (bitL x)), .int .i64 i] w fun e w' => e = .returned (.int .i64 (-1)) ∧ Below w.heap.size w w' := by
  have hA : Arr (w.alloc (.cells (bools (bitL x)) 25)) w.heap.size (bitL x) := heap_alloc_new _ _
  have hi := info_set (bitL x) (bitL_len x)
  have c1 := fun W => rall_any x W
  have hb0 : Below w.heap.size w (w.alloc (.cells (bools (bitL x)) 25)) := below_alloc _ _
  have hp64 := pop_le x
  generalize bitL x = bs at hA hi c1 hb0 ⊢
  by_cases h0 : i < 0
  · clear hi0
    go_enter Tryd.func25, Tryd.ntmps25
    go_wp2_with (refine wpList_load_row rfl 25 _ rfl w.heap.size rfl _ _ _ _ hA Tryd.underlying25 rfl hi ?_)
    refine (c1 _).mono ?_
    rintro e w1 ⟨p, c, rfl, hr, hb⟩
    have hb1 := hb0.trans (hb.mono hb0.size)
    clear hb hb0 hA c1 hi hr
    go_wp2_with fail
    go_ret
    exact ⟨rfl, hb1⟩
  · have h1 : (pop x : Int) ≤ i := by omega
    clear hi0
    go_enter Tryd.func25, Tryd.ntmps25
    go_wp2_with (refine wpList_load_row rfl 25 _ rfl w.heap.size rfl _ _ _ _ hA Tryd.underlying25 rfl hi ?_)
    refine (c1 _).mono ?_
    rintro e w1 ⟨p, c, rfl, hr, hb⟩
    have hb1 := hb0.trans (hb.mono hb0.size)
    clear hb hb0 hA c1 hi hr
    generalize pop x = px at hp64 h1
    go_wp2_with fail
    go_ret
    exact ⟨rfl, hb1⟩

/-- mask's At tells the one that the list has. -/
theorem at_list (x i : Nat) (w : World) (hx : x < 18446744073709551616) (hi : i < pop x) (ht : Tab w) :
    Calls Tryd.prog 24 #[.int .u64 x, .int .i64 i] w fun e w' => e = .returned (.int .i64 ((allL (bt x) 64).getD i 0)) ∧ w' = w := by
  refine (at_any x i w hx hi ht).mono ?_
  rintro e w' ⟨n, rfl, h1, h2, h3, rfl⟩
  obtain ⟨j, hj, hp, hc, hg⟩ := allL_get (bt x) 64 i hi
  obtain rfl : n = j := cnt_uniq (p := bt x) h2 hp (by show rk x n = _; rw [h3, hc])
  rw [hg]
  exact ⟨rfl, rfl⟩

end Go.Proofs.YtbbcondoenmapacDoor.M
