/-
  Own text: the contract of the reference's Signed.
-/
import Derived.Test.YtekifbhfbnabaaaDoorKRef
namespace Go.Proofs.YtekifbhfbnabaaaDoor.M
open Go.ChangeShapes Go.WideShapes Go.ChangeAt Go.RowKit

/-- The bits with a sign, as far as they have been gone through. -/
def sgnL (x b k : Nat) : List Bool := (List.range 64).map fun i => if b ≤ i ∧ i < k then x.testBit (b - 1) else x.testBit i

theorem sgnL_len (x b k : Nat) : (sgnL x b k).length = 64 := by simp [sgnL]

theorem sgnL_zero (x b : Nat) : sgnL x b 0 = bitL x := by
  unfold sgnL bitL
  apply List.map_congr_left
  intro i _
  rw [if_neg (by omega)]

theorem sgnL_skip (x : Nat) {b k : Nat} (h : k < b) : sgnL x b (k + 1) = sgnL x b k := by
  unfold sgnL
  apply List.map_congr_left
  intro i _
  by_cases h1 : b ≤ i ∧ i < k
  · rw [if_pos h1, if_pos (by omega)]
  · rw [if_neg h1, if_neg (by omega)]

theorem sgnL_set (x : Nat) {b k : Nat} (h : b ≤ k) : (sgnL x b k).set k (x.testBit (b - 1)) = sgnL x b (k + 1) := by
  apply List.ext_getElem
  · simp [sgnL]
  · intro i h1 h2
    rw [List.getElem_set]
    simp only [sgnL, List.getElem_map, List.getElem_range]
    by_cases h3 : k = i
    · subst h3; rw [if_pos rfl, if_pos (by omega)]
    · rw [if_neg h3]
      by_cases h4 : b ≤ i ∧ i < k
      · rw [if_pos h4, if_pos (by omega)]
      · rw [if_neg h4, if_neg (by omega)]

/-- The word that these bits are. -/
def sgnW (x b : Nat) : Nat := if x.testBit (b - 1) then 2 ^ b * (2 ^ (64 - b) - 1) + x % 2 ^ b else x % 2 ^ b

theorem sgnW_bits (x b : Nat) (h2 : b ≤ 64) : sgnL x b 64 = bitL (sgnW x b) := by
  unfold sgnL bitL
  apply List.map_congr_left
  intro i hi
  have hi' : i < 64 := by simpa using hi
  have hlt : x % 2 ^ b < 2 ^ b := Nat.mod_lt _ (Nat.pow_pos (by decide))
  unfold sgnW
  by_cases hs : x.testBit (b - 1) = true
  · rw [if_pos hs, Nat.testBit_two_pow_mul_add _ hlt, Nat.testBit_mod_two_pow, Nat.testBit_two_pow_sub_one]
    by_cases h : i < b
    · rw [if_neg (by omega), if_pos h, decide_eq_true h]; rfl
    · rw [if_pos (by omega), if_neg h, decide_eq_true (by omega), hs]
  · rw [if_neg hs, Nat.testBit_mod_two_pow]
    by_cases h : i < b
    · rw [if_neg (by omega), decide_eq_true h]; rfl
    · rw [if_pos (by omega), decide_eq_false h]
      simpa using hs

theorem test_top (x b : Nat) (h1 : 1 ≤ b) : x.testBit (b - 1) = decide (2 ^ (b - 1) ≤ x % 2 ^ b) := by
  have hh := pow_half h1
  rw [Nat.testBit_eq_decide_div_mod_eq, hh]
  have hp : 0 < 2 ^ (b - 1) := Nat.pow_pos (by decide)
  have e : x % (2 * 2 ^ (b - 1)) / 2 ^ (b - 1) = x / 2 ^ (b - 1) % 2 := by rw [Nat.mul_comm, Nat.mod_mul_right_div_self]
  have hlt : x % (2 * 2 ^ (b - 1)) < 2 * 2 ^ (b - 1) := Nat.mod_lt _ (by omega)
  rw [← e]
  generalize x % (2 * 2 ^ (b - 1)) = m at hlt ⊢
  generalize 2 ^ (b - 1) = H at hp hlt ⊢
  rw [decide_eq_decide]
  constructor
  · intro h
    have := Nat.div_mul_le_self m H
    rw [h] at this
    omega
  · intro h
    have h3 : 1 ≤ m / H := (Nat.le_div_iff_mul_le hp).2 (by omega)
    have h4 : m / H < 2 := (Nat.div_lt_iff_lt_mul hp).2 (by omega)
    omega

theorem sgnW_lt (x b : Nat) (h2 : b ≤ 64) : sgnW x b < 18446744073709551616 := by
  have hs := pow_split h2
  have hlt : x % 2 ^ b < 2 ^ b := Nat.mod_lt _ (Nat.pow_pos (by decide))
  have hp : 0 < 2 ^ (64 - b) := Nat.pow_pos (by decide)
  unfold sgnW
  rw [Nat.mul_sub, Nat.mul_one, hs]
  have hle : 2 ^ b ≤ 18446744073709551616 := by rw [← hs]; exact Nat.le_mul_of_pos_right _ hp
  split <;> omega

theorem sgnW_wrap (x b : Nat) (h1 : 1 ≤ b) (h2 : b ≤ 64) : wrap64 (sgnW x b : Int) = sgn x b := by
  have hs := pow_split h2
  have hh := pow_half h1
  have hlt : x % 2 ^ b < 2 ^ b := Nat.mod_lt _ (Nat.pow_pos (by decide))
  have hp : 0 < 2 ^ (64 - b) := Nat.pow_pos (by decide)
  have hle : 2 ^ b ≤ 18446744073709551616 := by rw [← hs]; exact Nat.le_mul_of_pos_right _ hp
  have hH : 2 ^ (b - 1) ≤ 9223372036854775808 := by omega
  unfold sgnW sgn
  rw [Nat.mul_sub, Nat.mul_one, hs, test_top x b h1]
  unfold wrap64
  generalize x % 2 ^ b = m at hlt ⊢
  generalize 2 ^ (b - 1) = H at hh hH ⊢
  generalize 2 ^ b = B at hh hlt hle ⊢
  by_cases hc : H ≤ m
  · rw [decide_eq_true hc, if_pos rfl, if_pos hc]
    omega
  · rw [decide_eq_false hc, if_neg (by decide), if_neg hc]
    omega

set_option maxRecDepth 20000 in
set_option maxHeartbeats 400000 in
theorem rsigned_any (x b : Nat) (w : World) (hx : x < 18446744073709551616) (h1 : 1 ≤ b) (h2 : b ≤ 64) :
    Calls Tryd.prog 6 #[.int .u64 x, .int .i64 b] w fun e w' => e = .returned (.int .i64 (sgn x b)) ∧ Below w.heap.size w w' := by
  have hF := from_any x w hx
  have hi := info_set (bitL x) (bitL_len x)
  go_enter Tryd.func6, Tryd.ntmps6
  go_wp2_with fail
  refine hF.mono ?_
  rintro e w1 ⟨rfl, hb1⟩
  have hZ : Arr (w1.alloc (.cells (bools (List.replicate 64 false)) 32)) w1.heap.size (List.replicate 64 false) := heap_alloc_new _ _
  have hZ2 := hZ.setRow (bitL x)
  have hb2 : Below w.heap.size w ((w1.alloc (.cells (bools (List.replicate 64 false)) 32)).setRow w1.heap.size (bools (bitL x))) := (hb1.alloc hb1.size _).trans (below_setRow _ _ _ hb1.size)
  have hg1 := hb1.size
  clear hb1 hF
  go_wp2_with (refine wpList_store_row rfl 32 _ _ rfl w1.heap.size _ rfl rfl _ _ hZ hi (by rw [bools_size, bools_size, bitL_len]; rfl) (bools_one _) ?_; generalize hW3 : World.setRow _ _ _ = W3; have hA3 : Arr W3 w1.heap.size (bitL x) := (by rw [← hW3]; exact hZ2); have hb3 : Below w.heap.size w W3 := (by rw [← hW3]; exact hb2); have hcs := hA3.cell (i := b - 1) (by rw [bitL_len]; omega); rw [bitL_get x (by omega)] at hcs; clear hW3 hZ hZ2 hb2)
  go_loopw [20] (fun i wr => ∃ k : Nat, k ≤ 64 ∧ i = .int .i64 k ∧ Arr wr w1.heap.size (sgnL x b k) ∧ Below w.heap.size w wr) (fun i _ => 64 - (intOf i).toNat)
  case atStart => exact ⟨0, by omega, rfl, by rw [sgnL_zero]; exact hA3, hb3⟩
  case round =>
    obtain ⟨k, hk, rfl, hA, hb⟩ := hrel
    clear hA3 hb3 hcs
    by_cases h64 : k < 64
    · by_cases hbk : b ≤ k
      · have hc := hA.cell (i := k) (by rw [sgnL_len]; exact h64)
        have hf := hA.free k
        have hA2 := hA.set k (x.testBit (b - 1))
        rw [sgnL_set x hbk] at hA2
        have hb2 : Below w.heap.size w (wr.setCell ⟨w1.heap.size, k, none⟩ (.bool (x.testBit (b - 1)))) := hb.setCell hg1 _
        generalize x.testBit (b - 1) = tb at hA2 hb2
        clear hA hb hi
        go_wp2
        go_roundw
        case rel => exact ⟨k + 1, by omega, by go_num, hA2, hb2⟩
        case measure => simp [intOf]; omega
      · have hA2 := hA
        rw [← sgnL_skip x (by omega : k < b)] at hA2
        clear hA hi
        go_wp2
        go_roundw
        case rel => exact ⟨k + 1, by omega, by go_num, hA2, hb⟩
        case measure => simp [intOf]; omega
    · obtain rfl : k = 64 := by omega
      rw [sgnW_bits x b h2] at hA
      have hW := word_any (bitL (sgnW x b)) wr (bitL_len _)
      rw [word_bits _ (sgnW_lt x b h2)] at hW
      have hsw := sgnW_wrap x b h1 h2
      have hi2 := info_set (bitL (sgnW x b)) (bitL_len _)
      generalize bitL (sgnW x b) = bs at hA hW hi2
      generalize sgnW x b = sw at hW hsw
      clear hi
      go_wp2_with (refine wpList_load_row rfl 32 _ rfl w1.heap.size rfl _ _ _ _ hA Tryd.underlying32 rfl hi2 ?_)
      refine hW.mono ?_
      rintro e w4 ⟨rfl, hb4⟩
      have hb5 := hb.trans (hb4.mono hb.size)
      have HW : Hid (wrap64 (sw : Int) = sgn x b) := hsw
      clear hsw
      go_wp2_with fail
      go_ret
      exact ⟨ret_int HW.out, hb5⟩

set_option maxRecDepth 20000 in
theorem rsigned_none (x : Int) (b : Int) (w : World) (h : b < 1 ∨ 64 < b) :
    Calls Tryd.prog 6 #[.int .u64 x, .int .i64 b] w fun e w' => e = .returned (.int .i64 0) ∧ w' = w := by
  rcases h with h | h
  · go_enter Tryd.func6, Tryd.ntmps6
    go_wp2
    go_ret
    exact ⟨rfl, rfl⟩
  · go_enter Tryd.func6, Tryd.ntmps6
    go_wp2
    go_ret
    exact ⟨rfl, rfl⟩

end Go.Proofs.YtekifbhfbnabaaaDoor.M
