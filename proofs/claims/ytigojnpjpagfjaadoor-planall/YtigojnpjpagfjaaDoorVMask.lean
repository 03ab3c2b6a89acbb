/-
  Own text: sets of numbers as bits: their least one, all of them, and the reference's set of 64; out of the mask's own texts.
-/
import Derived.Test.YtigojnpjpagfjaaDoorYPop
import Derived.Test.YtigojnpjpagfjaaDoorZArr
import Derived.Test.YtigojnpjpagfjaaDoorYGood
import Derived.Lib.LaidTab
import Derived.Lib.TrailingZeros
namespace Go.Proofs.YtigojnpjpagfjaaDoor.M
open Go.ChangeShapes Go.WideShapes Go.ChangeAt Go.RowKit

/-- The table of the library lies in the first block. -/
def Tab (w : World) : Prop := ∀ i, i < 64 → w.cell? ⟨0, i, none⟩ = some (.int .u8 ((Lib.deBruijn64tab.getD i 0 : Nat) : Int))

theorem Tab.pos {w : World} (h : Tab w) : 0 < w.heap.size := World.block_lt_of_cell? _ _ (h 0 (by decide))

theorem Tab.below {w w' : World} (h : Tab w) (hb : Below w.heap.size w w') : Tab w' := fun i hi => by
  rw [hb.cell (p := ⟨0, i, none⟩) h.pos]; exact h i hi

/-- How many zero bits stand lowest. -/
def tz (x : Nat) : Nat := Lib.ctz 64 x

/-- Where the table is asked. -/
def tzAt (x : Nat) : Nat := 2 ^ tz x * 285870213051353865 % 18446744073709551616 / 288230376151711744

theorem tz_lt {x : Nat} (h0 : 0 < x) (h : x < 18446744073709551616) : tz x < 64 := (Lib.lowest_bit 64 x (by omega) h).2

theorem tz_at {x : Nat} (h0 : 0 < x) (h : x < 18446744073709551616) : tzAt x < 64 ∧ Lib.deBruijn64tab.getD (tzAt x) 0 = tz x := by
  have hk := tz_lt h0 h
  unfold tzAt
  generalize tz x = k at hk ⊢
  exact Lib.deBruijn64_at k hk

theorem tz_neg {x : Nat} (h0 : 0 < x) (h : x < 18446744073709551616) : IntKind.u64.wrap (-(x : Int)) = ((18446744073709551616 - x : Nat) : Int) := by rw [IntKind.wrap_u64]; omega

theorem tz_and {x : Nat} (h0 : 0 < x) (h : x < 18446744073709551616) : bits .and .u64 (x : Int) ((18446744073709551616 - x : Nat) : Int) = ((2 ^ tz x : Nat) : Int) := by
  have e2 : x &&& (18446744073709551616 - x) = 2 ^ tz x := (Lib.lowest_bit 64 x (by omega) h).1
  rw [u64_and_nat x _ h (by omega), e2]

theorem tz_mul (y : Nat) : IntKind.u64.wrap ((y : Int) * 285870213051353865) = ((y * 285870213051353865 % 18446744073709551616 : Nat) : Int) := by
  rw [IntKind.wrap_u64, Int.natCast_emod, Int.natCast_mul]
  rfl

theorem tz_div (m : Nat) : (m : Int) / 288230376151711744 = ((m / 288230376151711744 : Nat) : Int) := by
  rw [Int.natCast_ediv]
  rfl

set_option maxRecDepth 20000 in
theorem tz_core (x nx y m a k : Nat) (w : World) (hne : ((x : Int) == 0) = false) (h1 : IntKind.u64.wrap (-(x : Int)) = (nx : Int)) (h2 : bits .and .u64 (x : Int) (nx : Int) = (y : Int)) (h3 : IntKind.u64.wrap ((y : Int) * 285870213051353865) = (m : Int)) (h4 : (m : Int) / 288230376151711744 = (a : Int)) (ha : a < 64) (hc : w.cell? ⟨0, a, none⟩ = some (.int .u8 (k : Int))) (hk : k < 64) :
    Calls Tryd.prog 103 #[.int .u64 x] w fun e w' => e = .returned (.int .i64 k) ∧ w' = w := by
  go_enter Tryd.func103, Tryd.ntmps103
  go_wp2
  go_ret
  exact ⟨rfl, rfl⟩

theorem tz_any (x : Nat) (w : World) (h0 : 0 < x) (h : x < 18446744073709551616) (ht : Tab w) : Calls Tryd.prog 103 #[.int .u64 x] w fun e w' => e = .returned (.int .i64 (tz x)) ∧ w' = w := by
  obtain ⟨h1, h2⟩ := tz_at h0 h
  have hc := ht _ h1
  rw [h2] at hc
  exact tz_core x _ _ _ _ _ w (by simp; omega) (tz_neg h0 h) (tz_and h0 h) (tz_mul _) (tz_div _) h1 hc (tz_lt h0 h)

set_option maxRecDepth 20000 in
theorem low_any (x : Nat) (w : World) (h0 : 0 < x) (h : x < 18446744073709551616) (ht : Tab w) : Calls Tryd.prog 95 #[.int .u64 x] w fun e w' => e = .returned (.int .i64 (tz x)) ∧ w' = w := by
  have hT := tz_any x w h0 h ht
  have hne : ((x : Int) == 0) = false := by simp; omega
  generalize tz x = k at hT ⊢
  clear ht
  go_enter Tryd.func95, Tryd.ntmps95
  go_wp2_with (go_at_call 103; refine hT.mono ?_; rintro e w1 ⟨rfl, hw⟩; subst hw)
  go_ret
  exact ⟨rfl, rfl⟩

set_option maxRecDepth 20000 in
theorem low_none (w : World) : Calls Tryd.prog 95 #[.int .u64 0] w fun e w' => e = .returned (.int .i64 (-1)) ∧ w' = w := by
  go_enter Tryd.func95, Tryd.ntmps95
  go_wp2
  go_ret
  exact ⟨rfl, rfl⟩

set_option maxRecDepth 20000 in
theorem and_any (x y : Nat) (w : World) (hx : x < 18446744073709551616) (hy : y < 18446744073709551616) : Calls Tryd.prog 34 #[.int .u64 x, .int .u64 y] w fun e w' => e = .returned (.int .u64 ((x &&& y : Nat) : Int)) ∧ w' = w := by
  have hb := u64_and_nat x y hx hy
  go_enter Tryd.func34, Tryd.ntmps34
  go_wp2
  go_ret
  exact ⟨rfl, rfl⟩

theorem cnt_le_of {p : Nat → Bool} {m n : Nat} (h : m ≤ n) : cnt p m ≤ cnt p n := by
  obtain ⟨k, rfl⟩ := Nat.exists_eq_add_of_le h
  rw [cnt_add]
  omega

theorem cnt_at {p : Nat → Bool} {m n : Nat} (h : m < n) (hm : p m = true) : cnt p m < cnt p n := by
  have h1 : cnt p (m + 1) ≤ cnt p n := cnt_le_of h
  have h2 : cnt p (m + 1) = cnt p m + 1 := by show cnt p m + (p m).toNat = _; rw [hm]; rfl
  omega

theorem cnt_uniq {p : Nat → Bool} {m n : Nat} (hm : p m = true) (hn : p n = true) (h : cnt p m = cnt p n) : m = n := by
  rcases Nat.lt_trichotomy m n with h1 | h1 | h1
  · have := cnt_at h1 hm; omega
  · exact h1
  · have := cnt_at h1 hn; omega

theorem cnt_find {p : Nat → Bool} {k : Nat} : ∀ n, k < cnt p n → ∃ j, j < n ∧ p j = true ∧ cnt p j = k
  | 0, h => absurd h (Nat.not_lt_zero _)
  | n + 1, h => by
    by_cases h1 : k < cnt p n
    · obtain ⟨j, hj, hp, hc⟩ := cnt_find n h1
      exact ⟨j, by omega, hp, hc⟩
    · simp only [cnt] at h
      cases hp : p n with
      | false => rw [hp] at h; simp at h; omega
      | true => rw [hp] at h; simp at h; exact ⟨n, by omega, hp, by omega⟩

/-- A word's bits as a question. -/
def bt (x : Nat) : Nat → Bool := fun i => x.testBit i

/-- How many bits stand below a place. -/
def rk (x n : Nat) : Nat := cnt (bt x) n

theorem pop_rk (x : Nat) : pop x = rk x 64 := rfl

theorem tz_spec {x : Nat} (h0 : 0 < x) (h : x < 18446744073709551616) : x.testBit (tz x) = true ∧ ∀ j, j < tz x → x.testBit j = false := by
  obtain ⟨m, hm, hk⟩ := Lib.ctzFrom_spec 64 x h0 h
  have e : tz x = Lib.ctzFrom 64 x := by unfold tz Lib.ctz; rw [if_neg (by omega)]
  rw [← e] at hm
  generalize tz x = t at hm ⊢
  subst hm
  constructor
  · rw [Nat.testBit_two_pow_mul, Nat.sub_self, Nat.testBit_zero]
    simp
  · intro j hj
    rw [Nat.testBit_two_pow_mul]
    have : decide (j ≥ t) = false := decide_eq_false (by omega)
    rw [this]
    rfl

theorem bitN_nat {k : Nat} (hk : k < 64) : bitN (k : Int) = 2 ^ k := by
  unfold bitN
  rw [if_pos (by omega), Int.toNat_natCast]

/-- The numbers below n that are so, rising. -/
def allL (p : Nat → Bool) : Nat → List Int
  | 0 => []
  | n + 1 => allL p n ++ (if p n then [(n : Int)] else [])

theorem allL_len (p : Nat → Bool) : ∀ n, (allL p n).length = cnt p n
  | 0 => rfl
  | n + 1 => by
    unfold allL cnt
    rw [List.length_append, allL_len p n]
    cases p n <;> rfl

theorem allL_step {p : Nat → Bool} {k : Nat} (h : p k = true) : allL p (k + 1) = allL p k ++ [(k : Int)] := by
  show allL p k ++ (if p k then [(k : Int)] else []) = _
  rw [if_pos h]

theorem allL_skip {p : Nat → Bool} {k : Nat} (h : p k = false) : allL p (k + 1) = allL p k := by
  show allL p k ++ (if p k then [(k : Int)] else []) = _
  rw [if_neg (by rw [h]; decide), List.append_nil]

theorem cnt_step {p : Nat → Bool} {k : Nat} (h : p k = true) : cnt p (k + 1) = cnt p k + 1 := by
  show cnt p k + (p k).toNat = _
  rw [h]; rfl

theorem cnt_skip {p : Nat → Bool} {k : Nat} (h : p k = false) : cnt p (k + 1) = cnt p k := by
  show cnt p k + (p k).toNat = _
  rw [h]; rfl

/-- The i-th one has i below it. -/
theorem allL_get (p : Nat → Bool) : ∀ n i, i < cnt p n → ∃ j : Nat, j < n ∧ p j = true ∧ cnt p j = i ∧ (allL p n).getD i 0 = (j : Int)
  | 0, i, h => absurd h (Nat.not_lt_zero _)
  | n + 1, i, h => by
    cases hp : p n with
    | false =>
      rw [cnt_skip hp] at h
      rw [allL_skip hp]
      obtain ⟨j, h1, h2⟩ := allL_get p n i h
      exact ⟨j, by omega, h2⟩
    | true =>
      rw [cnt_step hp] at h
      rw [allL_step hp, List.getD_eq_getElem?_getD]
      by_cases hi : i < cnt p n
      · obtain ⟨j, h1, h2, h3, h4⟩ := allL_get p n i hi
        refine ⟨j, by omega, h2, h3, ?_⟩
        rw [List.getElem?_append_left (by rw [allL_len]; exact hi), ← List.getD_eq_getElem?_getD]
        exact h4
      · refine ⟨n, by omega, hp, by omega, ?_⟩
        rw [List.getElem?_append_right (by rw [allL_len]; omega), allL_len, show i - cnt p n = 0 by omega]
        rfl

theorem infoI : (Tryd.prog.info? 3).map (fun i => (i.zero, i.size, i.bytes)) = some (some (.int .i64 0), 1, 8) := by kernel_rfl

theorem Rd.one (k : IntKind) (w : World) (e : TypeId) (x : Int) : Rd k (w.alloc (.cells #[.int k x] e)) (some ⟨w.heap.size, 0, none⟩) 1 1 [x] := by
  refine ⟨rfl, Nat.le_refl _, (fun h => by cases h), fun _ => ⟨w.heap.size, 0, rfl, fun i hi => ?_⟩⟩
  obtain rfl : i = 0 := by omega
  simp

set_option maxRecDepth 20000 in
set_option maxHeartbeats 400000 in
theorem all_any (x : Nat) (w : World) (hx : x < 18446744073709551616) :
    Calls Tryd.prog 32 #[.int .u64 x] w fun e w' => ∃ p c, e = .returned (.slice p (pop x) c) ∧ Ow .i64 3 w' w.heap.size p (pop x) c (allL (bt x) 64) ∧ Below w.heap.size w w' := by
  obtain ⟨i0, hi, hz0, hz1, hz2⟩ := info_parts infoI
  have cH : ∀ (k : Nat) W, k < 64 → Calls Tryd.prog 25 #[.int .u64 x, .int .i64 k] W fun e w' => e = .returned (.bool (bt x k)) ∧ w' = W := by
    intro k W hk
    have h := has_any x k W hx
    have e : hasN x (k : Int) = bt x k := by
      unfold hasN bt
      rw [decide_eq_true (by omega), Int.toNat_natCast]
      rfl
    rw [e] at h
    exact h
  go_enter Tryd.func32, Tryd.ntmps32
  go_wp2_with fail
  go_loopw [3, 5] (fun v i wr => ∃ (k : Nat) (p : Option Addr) (n c : Nat), k ≤ 64 ∧ i = .int .i64 k ∧ v = .slice p n c ∧ Hid (n = cnt (bt x) k) ∧ Ow .i64 3 wr w.heap.size p n c (allL (bt x) k) ∧ Below w.heap.size w wr) (fun _ i _ => 64 - (intOf i).toNat)
  case atStart => exact ⟨0, none, 0, 0, by omega, rfl, rfl, rfl, Ow.empty _ _ _ _ _, Below.refl _ _⟩
  case round =>
    obtain ⟨k, p, n, c, hk, rfl, rfl, hn, ho, hb⟩ := hrel
    have hBr := hb.size
    have hn64 : n ≤ 64 := by rw [hn.out]; exact Nat.le_trans (cnt_le _ _) hk
    by_cases h64 : k < 64
    · have c1 := cH k wr h64
      cases hp : bt x k with
      | true =>
        have hN : Hid (n + 1 = cnt (bt x) (k + 1)) := by show _ = _; rw [cnt_step hp, hn.out]
        have hS : Hid (allL (bt x) (k + 1) = allL (bt x) k ++ [(k : Int)]) := allL_step hp
        rw [hp] at c1
        clear hp cH hx
        generalize allL (bt x) k = xs at ho hS
        go_wp2_with fail
        refine c1.mono ?_
        rintro e w1 ⟨rfl, hw⟩
        subst hw
        go_wp2_with (at_builtin; refine wpList_app _ rfl _ _ 64 rfl .i64 3 i0 (.int .i64 0) 8 Tryd.underlying64 hi hz0 hz1 hz2 rfl w.heap.size _ _ _ xs rfl (ho.below (below_alloc _ _)) _ _ _ _ rfl (Rd.one _ _ _ _) ?c1 ?c2 ?c3 ?_)
        case c1 => omega
        case c2 => unfold maxLen; omega
        case c3 => simp; omega
        intro p2 c2 w2 ho2 hb2
        have hb3 : Below w.heap.size w w2 := (hb.trans ((below_alloc _ _).mono hBr)).trans hb2
        clear hb hb2 ho
        go_wp2
        go_roundw
        case rel => exact ⟨k + 1, p2, n + 1, c2, by omega, by go_num, rfl, hN, by rw [hS.out]; exact ho2, hb3⟩
        case measure => simp [intOf]; omega
      | false =>
        have hN : Hid (n = cnt (bt x) (k + 1)) := by show _ = _; rw [cnt_skip hp, hn.out]
        have hS : Hid (allL (bt x) (k + 1) = allL (bt x) k) := allL_skip hp
        rw [hp] at c1
        clear hp cH hx
        generalize allL (bt x) k = xs at ho hS
        go_wp2_with fail
        refine c1.mono ?_
        rintro e w1 ⟨rfl, hw⟩
        subst hw
        go_wp2_with fail
        go_roundw
        case rel => exact ⟨k + 1, p, n, c, by omega, by go_num, rfl, hN, by rw [hS.out]; exact ho, hb⟩
        case measure => simp [intOf]; omega
    · obtain rfl : k = 64 := by omega
      have R : ∃ p' c', Ending.returned (.slice p n c) = .returned (.slice p' (pop x) c') ∧ Ow .i64 3 wr w.heap.size p' (pop x) c' (allL (bt x) 64) ∧ Below w.heap.size w wr := by
        have e : pop x = n := hn.out.symm
        rw [e]
        exact ⟨p, c, rfl, ho, hb⟩
      clear cH hx ho hn hb
      go_wp2
      go_ret
      exact R

/-- The answers of yes or no as cells. -/
def bools (bs : List Bool) : Array Value := (bs.map Value.bool).toArray

theorem bools_size (bs : List Bool) : (bools bs).size = bs.length := by simp [bools]

theorem bools_one (bs : List Bool) : (bools bs).all (·.oneCell') = true := by
  rw [Array.all_eq_true]
  intro i hi
  simp [bools, Value.oneCell']

/-- A block that holds such an array. -/
def Arr (w : World) (g : Nat) (bs : List Bool) : Prop := w.heap[g]? = some (.cells (bools bs) 78 (0, 0))

theorem Arr.cell {w : World} {g : Nat} {bs : List Bool} (h : Arr w g bs) {i : Nat} (hi : i < bs.length) : w.cell? ⟨g, i, none⟩ = some (.bool (bs.getD i false)) := by
  rw [cell_of_row w g i _ _ _ h, bools, List.getElem?_toArray, List.getElem?_map, List.getD_eq_getElem?_getD, List.getElem?_eq_getElem hi]
  rfl

theorem Arr.free {w : World} {g : Nat} {bs : List Bool} (h : Arr w g bs) (i : Nat) : w.frozen? ⟨g, i, none⟩ = false := frozen_of_row w g i _ _ h

theorem Arr.lt {w : World} {g : Nat} {bs : List Bool} (h : Arr w g bs) : g < w.heap.size := (Array.getElem?_eq_some_iff.1 h).1

theorem Arr.set {w : World} {g : Nat} {bs : List Bool} (h : Arr w g bs) (i : Nat) (b : Bool) : Arr (w.setCell ⟨g, i, none⟩ (.bool b)) g (bs.set i b) := by
  have h1 := heap_setCell_same w g i _ _ (.bool b) h
  unfold Arr
  rw [h1]
  congr 2
  unfold bools
  rw [List.map_set, List.setIfInBounds_toArray]

theorem Arr.below {w w' : World} {g : Nat} {bs : List Bool} (h : Arr w g bs) (hb : Below w.heap.size w w') : Arr w' g bs := by
  unfold Arr
  rw [hb.block g h.lt]
  exact h

theorem Arr.setRow {w : World} {g : Nat} {bs : List Bool} (h : Arr w g bs) (cs : List Bool) : Arr (w.setRow g (bools cs)) g cs := by
  unfold Arr World.setRow
  rw [Array.getElem?_modify, if_pos rfl, h]
  rfl

theorem info_set (bs : List Bool) (h : bs.length = 64) : (Tryd.prog.info? 78).map (·.size) = some (bools bs).size := by
  rw [bools_size, h]
  kernel_rfl

/-- The bits of a word, as far as they have been gone through. -/
def fromL (x k : Nat) : List Bool := (List.range 64).map fun i => decide (i < k) && x.testBit i

/-- The bits of a word. -/
def bitL (x : Nat) : List Bool := (List.range 64).map fun i => x.testBit i

theorem fromL_len (x k : Nat) : (fromL x k).length = 64 := by simp [fromL]
theorem bitL_len (x : Nat) : (bitL x).length = 64 := by simp [bitL]

theorem bitL_get (x : Nat) {i : Nat} (h : i < 64) : (bitL x).getD i false = x.testBit i := by
  rw [List.getD_eq_getElem?_getD, bitL, List.getElem?_map, List.getElem?_range h]
  rfl

theorem fromL_zero (x : Nat) : fromL x 0 = List.replicate 64 false := by
  apply List.ext_getElem
  · simp [fromL]
  · intro i h1 h2
    rw [List.getElem_replicate]
    simp only [fromL, List.getElem_map]
    rw [decide_eq_false (by omega)]
    rfl

theorem fromL_end (x : Nat) : fromL x 64 = bitL x := by
  unfold fromL bitL
  apply List.map_congr_left
  intro i hi
  rw [decide_eq_true (by simpa using hi)]
  rfl

theorem fromL_set (x k : Nat) : (fromL x k).set k (x.testBit k) = fromL x (k + 1) := by
  apply List.ext_getElem
  · simp [fromL]
  · intro i h1 h2
    rw [List.getElem_set]
    simp only [fromL, List.getElem_map, List.getElem_range]
    by_cases h : k = i
    · subst h; simp
    · rw [if_neg h]
      congr 1
      simp only [decide_eq_decide]
      omega

theorem bit_test (x k : Nat) : (((x / 2 ^ k : Nat) : Int) % 2 == 1) = x.testBit k := by
  rw [Nat.testBit_eq_decide_div_mod_eq]
  generalize x / 2 ^ k = y
  by_cases h : y % 2 = 1
  · rw [decide_eq_true h, beq_iff_eq]; omega
  · rw [decide_eq_false h, beq_eq_false_iff_ne]; omega

theorem half_pow (x k : Nat) : ((x / 2 ^ k : Nat) : Int) / 2 = ((x / 2 ^ (k + 1) : Nat) : Int) := by
  rw [Nat.pow_succ, ← Nat.div_div_eq_div_mul]
  omega

set_option maxRecDepth 20000 in
set_option maxHeartbeats 400000 in
theorem from_any (x : Nat) (w : World) (h : x < 18446744073709551616) : Calls Tryd.prog 41 #[.int .u64 x] w fun e w' => e = .returned (.agg (bools (bitL x))) ∧ Below w.heap.size w w' := by
  go_enter Tryd.func41, Tryd.ntmps41
  go_wp2_with fail
  go_loopw [0, 5] (fun v i wr => ∃ k : Nat, k ≤ 64 ∧ i = .int .i64 k ∧ v = .int .u64 ((x / 2 ^ k : Nat) : Int) ∧ Arr wr (w.heap.size + 1) (fromL x k) ∧ Arr wr w.heap.size (List.replicate 64 false) ∧ Below w.heap.size w wr) (fun _ i _ => 64 - (intOf i).toNat)
  case atStart => exact ⟨0, by omega, rfl, by simp, by rw [fromL_zero]; exact heap_alloc2_new _ _ _, heap_alloc2_old _ _ _, ((Below.refl _ _).alloc (Nat.le_refl _) _).alloc (by simp) _⟩
  case round =>
    obtain ⟨k, hk, rfl, rfl, hA, hZ, hb⟩ := hrel
    by_cases h64 : k < 64
    · have hc := hA.cell (i := k) (by rw [fromL_len]; exact h64)
      have hf := hA.free k
      have hA2 := hA.set k (x.testBit k)
      rw [fromL_set] at hA2
      have hZ2 : Arr (wr.setCell ⟨w.heap.size + 1, k, none⟩ (.bool (x.testBit k))) w.heap.size (List.replicate 64 false) := by
        unfold Arr
        rw [Below.heap_setCell _ _ _ _ (by simp)]
        exact hZ
      have hb2 : Below w.heap.size w (wr.setCell ⟨w.heap.size + 1, k, none⟩ (.bool (x.testBit k))) := hb.setCell (by simp) _
      have ht := bit_test x k
      have hh := half_pow x k
      have hlt : x / 2 ^ k < 18446744073709551616 := Nat.lt_of_le_of_lt (Nat.div_le_self _ _) h
      generalize x.testBit k = tb at hA2 hZ2 hb2 ht
      obtain ⟨y2, hy2⟩ : ∃ y, y = x / 2 ^ (k + 1) := ⟨_, rfl⟩
      rw [← hy2] at hh
      have HY : Hid (y2 = x / 2 ^ (k + 1)) := hy2
      clear hy2
      generalize x / 2 ^ k = y at ht hh hlt
      clear hA hZ hb h
      go_wp2
      go_roundw
      case rel => exact ⟨k + 1, by omega, by go_num, by rw [HY.out], hA2, hZ2, hb2⟩
      case measure => simp [intOf]; omega
    · obtain rfl : k = 64 := by omega
      rw [fromL_end] at hA
      have hi := info_set (bitL x) (bitL_len x)
      have hZ2 := hZ.setRow (bitL x)
      have hb2 := hb.trans (below_setRow wr w.heap.size (bools (bitL x)) (Nat.le_refl _))
      go_wp2_with (first | refine wpList_load_row rfl 78 _ rfl (w.heap.size + 1) rfl _ _ _ _ hA Tryd.underlying78 rfl hi ?_ | refine wpList_store_row rfl 78 _ _ rfl w.heap.size _ rfl rfl _ _ hZ hi (by rw [bools_size, bools_size, bitL_len]; rfl) (bools_one _) ?_)
      exact bodyPost_ret (results_cell_row (p := 2) rfl _ _ w.heap.size _ _ _ _ rfl hZ2 Tryd.underlying78 rfl hi) rfl ⟨rfl, hb2⟩

theorem zero64 : bools (List.replicate 64 false) = #[.bool false, .bool false, .bool false, .bool false, .bool false, .bool false, .bool false, .bool false, .bool false, .bool false, .bool false, .bool false, .bool false, .bool false, .bool false, .bool false, .bool false, .bool false, .bool false, .bool false, .bool false, .bool false, .bool false, .bool false, .bool false, .bool false, .bool false, .bool false, .bool false, .bool false, .bool false, .bool false, .bool false, .bool false, .bool false, .bool false, .bool false, .bool false, .bool false, .bool false, .bool false, .bool false, .bool false, .bool false, .bool false, .bool false, .bool false, .bool false, .bool false, .bool false, .bool false, .bool false, .bool false, .bool false, .bool false, .bool false, .bool false, .bool false, .bool false, .bool false, .bool false, .bool false, .bool false, .bool false] := rfl

end Go.Proofs.YtigojnpjpagfjaaDoor.M
