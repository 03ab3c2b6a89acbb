/-
  Own text: contracts of the library's rotation, of mask's Turned and of the reference's.
-/
import Derived.Test.YtbbcondoenmapadDoorKAt
import Derived.Test.YtbbcondoenmapadDoorKRef
namespace Go.Proofs.YtbbcondoenmapadDoor.M
open Go.ChangeShapes Go.WideShapes Go.ChangeAt Go.RowKit

theorem run_index_row (bs : List Bool) (k : Nat) (w : World) (hl : bs.length = 64) (hk : k < 64) : (Instr.index 26 (.agg (bools bs)) (.int .i64 k)).run Tryd.prog w = .ok (.bool (bs.getD k false)) w := by
  have hu : Tryd.prog.underlying 26 = some (.array 64 4) := Tryd.underlying26
  have hg : (bools bs)[k]? = some (.bool (bs[k]?.getD false)) := by
    rw [bools, List.getElem?_toArray, List.getElem?_map, List.getElem?_eq_getElem (by omega)]
    rfl
  simp [Instr.index, run_underlying hu, asIntOf, go_sem]
  rw [if_pos hk, hg]
  rfl

/-- A word turned. -/
def rot (x t : Nat) : Nat := (x * 2 ^ t % 18446744073709551616) ||| (x / 2 ^ (64 - t))

theorem rot_lt {x t : Nat} (hx : x < 18446744073709551616) : rot x t < 18446744073709551616 :=
  or_lt64 (Nat.mod_lt _ (by decide)) (Nat.lt_of_le_of_lt (Nat.div_le_self _ _) hx)

theorem testBit_high {x j : Nat} (hx : x < 18446744073709551616) (h : 64 ≤ j) : x.testBit j = false := by
  apply Nat.testBit_lt_two_pow
  exact Nat.lt_of_lt_of_le hx (Nat.pow_le_pow_right (n := 2) (by decide) h)

theorem rot_bit {x t j : Nat} (hx : x < 18446744073709551616) (ht : t < 64) (hj : j < 64) : (rot x t).testBit j = x.testBit ((j + (64 - t)) % 64) := by
  unfold rot
  rw [Nat.testBit_or, show 18446744073709551616 = 2 ^ 64 from rfl, Nat.testBit_mod_two_pow, decide_eq_true hj, Bool.true_and, Nat.mul_comm, Nat.testBit_two_pow_mul, Nat.testBit_div_two_pow]
  by_cases h : t ≤ j
  · rw [testBit_high hx (show 64 ≤ j + (64 - t) by omega), Bool.or_false, decide_eq_true (show j ≥ t from h), Bool.true_and]
    congr 1
    omega
  · rw [decide_eq_false (show ¬ (j ≥ t) from h), Bool.false_and, Bool.false_or]
    congr 1
    omega

theorem and63 (n : Int) : bits .and .u64 (IntKind.u64.wrap n) 63 = ((n % 64).toNat : Int) := by
  rw [IntKind.wrap_u64, u64_and _ _ (by omega) (by omega) (by omega) (by omega)]
  have e : ((63 : Int).toNat) = 2 ^ 6 - 1 := rfl
  rw [e, Nat.and_two_pow_sub_one_eq_mod]
  omega

set_option maxRecDepth 20000 in
theorem rot_core (x t z : Nat) (n : Int) (w : World) (_hx : x < 18446744073709551616) (ht : t < 64) (h1 : bits .and .u64 (IntKind.u64.wrap n) 63 = (t : Int)) (h2 : bits .or .u64 (IntKind.u64.wrap ((x : Int) * 2 ^ t)) ((x : Int) / 2 ^ (64 - t)) = (z : Int)) :
    Calls Tryd.prog 26 #[.int .u64 x, .int .i64 n] w fun r w' => r = .returned (.int .u64 z) ∧ w' = w := by
  have H2 : Hid (bits .or .u64 (IntKind.u64.wrap ((x : Int) * 2 ^ t)) ((x : Int) / 2 ^ (64 - t)) = (z : Int)) := h2
  clear h2
  go_enter Tryd.func26, Tryd.ntmps26
  go_wp2
  go_ret
  exact ⟨ret_int H2.out, rfl⟩

theorem rot_any (x : Nat) (n : Int) (w : World) (hx : x < 18446744073709551616) :
    Calls Tryd.prog 26 #[.int .u64 x, .int .i64 n] w fun r w' => r = .returned (.int .u64 (rot x (n % 64).toNat)) ∧ w' = w := by
  refine rot_core x (n % 64).toNat _ n w hx (by omega) (and63 n) ?_
  generalize (n % 64).toNat = t
  have e1 : IntKind.u64.wrap ((x : Int) * 2 ^ t) = ((x * 2 ^ t % 18446744073709551616 : Nat) : Int) := by
    rw [IntKind.wrap_u64, show (2 : Int) ^ t = ((2 ^ t : Nat) : Int) by rw [Int.natCast_pow]; rfl, ← Int.natCast_mul, Int.natCast_emod]
    rfl
  have e2 : (x : Int) / 2 ^ (64 - t) = ((x / 2 ^ (64 - t) : Nat) : Int) := by
    rw [show (2 : Int) ^ (64 - t) = ((2 ^ (64 - t) : Nat) : Int) by rw [Int.natCast_pow]; rfl, Int.natCast_ediv]
  rw [e1, e2, u64_or_nat _ _ (Nat.mod_lt _ (by decide)) (Nat.lt_of_le_of_lt (Nat.div_le_self _ _) hx)]
  rfl

set_option maxRecDepth 20000 in
theorem turned_any (x : Nat) (n : Int) (w : World) (hx : x < 18446744073709551616) :
    Calls Tryd.prog 9 #[.int .u64 x, .int .i64 n] w fun r w' => r = .returned (.int .u64 (rot x (n % 64).toNat)) ∧ w' = w := by
  have c := rot_any x n w hx
  generalize rot x (n % 64).toNat = z at c ⊢
  go_enter Tryd.func9, Tryd.ntmps9
  go_wp2_with fail
  refine c.mono ?_
  rintro e w1 ⟨rfl, hw⟩
  subst hw
  go_wp2_with fail
  go_ret
  exact ⟨rfl, rfl⟩

/-- The answers turned, as far as they have been gone through. -/
def turnL (bs : List Bool) (t k : Nat) : List Bool := (List.range 64).map fun j => decide ((j + (64 - t)) % 64 < k) && bs.getD ((j + (64 - t)) % 64) false

theorem turnL_len (bs : List Bool) (t k : Nat) : (turnL bs t k).length = 64 := by simp [turnL]

theorem turnL_zero (bs : List Bool) (t : Nat) : turnL bs t 0 = List.replicate 64 false := by
  apply List.ext_getElem
  · simp [turnL]
  · intro i h1 h2
    rw [List.getElem_replicate]
    simp only [turnL, List.getElem_map]
    rw [decide_eq_false (by omega)]
    rfl

theorem turnL_set (bs : List Bool) {t k : Nat} (ht : t < 64) (hk : k < 64) : (turnL bs t k).set ((k + t) % 64) (bs.getD k false) = turnL bs t (k + 1) := by
  apply List.ext_getElem
  · simp [turnL]
  · intro i h1 h2
    have hi : i < 64 := by simpa [turnL] using h2
    rw [List.getElem_set]
    simp only [turnL, List.getElem_map, List.getElem_range]
    by_cases h : (k + t) % 64 = i
    · have e : (i + (64 - t)) % 64 = k := by omega
      rw [if_pos h, e, decide_eq_true (by omega)]
      rfl
    · rw [if_neg h]
      congr 1
      have : (i + (64 - t)) % 64 ≠ k := by omega
      simp only [decide_eq_decide]
      omega

theorem turnL_end (x : Nat) {t : Nat} (hx : x < 18446744073709551616) (ht : t < 64) : turnL (bitL x) t 64 = bitL (rot x t) := by
  unfold turnL
  unfold bitL
  apply List.map_congr_left
  intro i hi
  have hi' : i < 64 := by simpa using hi
  have h64 : (i + (64 - t)) % 64 < 64 := Nat.mod_lt _ (by decide)
  rw [decide_eq_true h64, rot_bit hx ht hi']
  exact bitL_get x h64

theorem tmod64 (n : Int) : n.tmod 64 = (n % 64).toNat ∨ n.tmod 64 = (n % 64).toNat - 64 := by
  rcases Int.le_total 0 n with h | h
  · rw [Int.tmod_eq_emod_of_nonneg h]; omega
  · obtain ⟨k, rfl⟩ : ∃ k, n = -k := ⟨-n, by omega⟩
    rw [Int.neg_tmod, Int.tmod_eq_emod_of_nonneg (by omega)]
    omega

set_option maxRecDepth 20000 in
set_option maxHeartbeats 400000 in
theorem rturned_any (x : Nat) (n : Int) (w : World) (hx : x < 18446744073709551616) :
    Calls Tryd.prog 11 #[.agg (bools (bitL x)), .int .i64 n] w fun r w' => r = .returned (.agg (bools (bitL (rot x (n % 64).toNat)))) ∧ Below w.heap.size w w' := by
  have ht : (n % 64).toNat < 64 := by omega
  have hm := tmod64 n
  have hE := turnL_end x hx ht
  have hbl := bitL_len x
  have hzl := bitL_len (rot x (n % 64).toNat)
  generalize bitL (rot x (n % 64).toNat) = zs at hE hzl ⊢
  have hix := fun k W hk => run_index_row (bitL x) k W hbl hk
  generalize bitL x = bs at hE hix hbl ⊢
  have hi := info_set bs hbl
  have hi2 := info_set zs hzl
  generalize (n % 64).toNat = t at ht hm hE
  have hA : Arr (((w.alloc (.cells (bools bs) 26)).alloc (.cells (bools (List.replicate 64 false)) 26)).alloc (.cells (bools (List.replicate 64 false)) 26)) w.heap.size bs := by
    have h1 : Arr (w.alloc (.cells (bools bs) 26)) w.heap.size bs := heap_alloc_new _ _
    have h2 := h1.below ((Below.refl _ _).alloc (Nat.le_refl _) (.cells (bools (List.replicate 64 false)) 26))
    exact h2.below ((Below.refl _ _).alloc (Nat.le_refl _) _)
  generalize hnm : n.tmod 64 = m at hm
  go_enter Tryd.func11, Tryd.ntmps11
  go_wp2_with (refine wpList_load_row rfl 26 _ rfl w.heap.size rfl _ _ _ _ hA Tryd.underlying26 rfl hi ?_)
  clear hnm
  go_loopw [11] (fun i wr => ∃ k : Nat, k ≤ 64 ∧ i = .int .i64 k ∧ Arr wr (w.heap.size + 1 + 1) (turnL bs t k) ∧ Arr wr (w.heap.size + 1) (List.replicate 64 false) ∧ Below w.heap.size w wr) (fun i _ => 64 - (intOf i).toNat)
  case atStart =>
    refine ⟨0, by omega, rfl, ?_, ?_, ?_⟩
    · rw [turnL_zero]
      have h3 : (((w.alloc (.cells (bools bs) 26)).alloc (.cells (bools (List.replicate 64 false)) 26))).heap.size = w.heap.size + 1 + 1 := by simp
      have h4 : Arr (((w.alloc (.cells (bools bs) 26)).alloc (.cells (bools (List.replicate 64 false)) 26)).alloc (.cells (bools (List.replicate 64 false)) 26)) _ (List.replicate 64 false) := heap_alloc_new _ _
      rw [h3] at h4
      exact h4
    · have h3 : (w.alloc (.cells (bools bs) 26)).heap.size = w.heap.size + 1 := by simp
      have h4 : Arr ((w.alloc (.cells (bools bs) 26)).alloc (.cells (bools (List.replicate 64 false)) 26)) _ (List.replicate 64 false) := heap_alloc_new _ _
      rw [h3] at h4
      exact h4.below ((Below.refl _ _).alloc (Nat.le_refl _) _)
    · exact (((Below.refl _ _).alloc (Nat.le_refl _) _).alloc (by simp) _).alloc (by simp; omega) _
  case round =>
    obtain ⟨k, hk, rfl, hO, hZ, hb⟩ := hrel
    clear hA
    by_cases h64 : k < 64
    · have hixk := fun W => hix k W h64
      have hq : ((k : Int) + m + 64) % 64 = (((k + t) % 64 : Nat) : Int) := by omega
      have hq2 : ((k : Int) + m + 64).tmod 64 = (((k + t) % 64 : Nat) : Int) := by rw [Int.tmod_eq_emod_of_nonneg (by omega)]; exact hq
      have hql : (k + t) % 64 < 64 := Nat.mod_lt _ (by decide)
      have hs := turnL_set bs ht h64
      have hml : -64 ≤ m ∧ m < 64 := by omega
      obtain ⟨hml1, hml2⟩ := hml
      generalize (k + t) % 64 = q at hq hq2 hql hs
      have hc := hO.cell (i := q) (by rw [turnL_len]; exact hql)
      have hf := hO.free q
      have hO2 := hO.set q (bs.getD k false)
      rw [hs] at hO2
      have hZ2 : Arr (wr.setCell ⟨w.heap.size + 1 + 1, q, none⟩ (.bool (bs.getD k false))) (w.heap.size + 1) (List.replicate 64 false) := by
        unfold Arr
        rw [Below.heap_setCell _ _ _ _ (by simp)]
        exact hZ
      have hb2 : Below w.heap.size w (wr.setCell ⟨w.heap.size + 1 + 1, q, none⟩ (.bool (bs.getD k false))) := hb.setCell (by simp; omega) _
      clear hs hO hZ hb hE hi hi2 hbl hzl hm hix
      generalize bs.getD k false = tb at hO2 hZ2 hb2 hixk
      go_wp2
      go_roundw
      case rel => exact ⟨k + 1, by omega, by go_num, hO2, hZ2, hb2⟩
      case measure => simp [intOf]; omega
    · obtain rfl : k = 64 := by omega
      rw [hE] at hO
      have hZ2 := hZ.setRow zs
      have hb2 := hb.trans (below_setRow wr (w.heap.size + 1) (bools zs) (by omega))
      clear hix
      go_wp2_with (first | refine wpList_load_row rfl 26 _ rfl (w.heap.size + 1 + 1) rfl _ _ _ _ hO Tryd.underlying26 rfl hi2 ?_ | refine wpList_store_row rfl 26 _ _ rfl (w.heap.size + 1) _ rfl rfl _ _ hZ hi2 (by rw [bools_size, bools_size, hzl]; rfl) (bools_one _) ?_)
      exact bodyPost_ret (results_cell_row (p := 4) rfl _ _ (w.heap.size + 1) _ _ _ _ rfl hZ2 Tryd.underlying26 rfl hi2) rfl ⟨rfl, hb2⟩

end Go.Proofs.YtbbcondoenmapadDoor.M
