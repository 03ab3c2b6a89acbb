/-
  Own text: the contract of the reference's Set; it is the program's.
-/
import Derived.Test.YtnhdfojbffaifaaYRefP
namespace Go.Proofs.Ytnhdfojbffaifaa.M
open Go.ChangeShapes Go.WideShapes Go.ChangeAt Go.RowKit

/-- The sum of the powers of which something is so. -/
def sumB (p : Nat → Bool) : Nat → Nat
  | 0 => 0
  | k + 1 => sumB p k + if p k = true then 2 ^ k else 0

theorem sumB_lt (p : Nat → Bool) : ∀ k, sumB p k < 2 ^ k
  | 0 => by simp [sumB]
  | k + 1 => by
    have := sumB_lt p k
    unfold sumB
    rw [Nat.pow_succ]
    split <;> omega

theorem sumB_mod (p : Nat → Bool) (x : Nat) : ∀ k, (∀ j, j < k → p j = x.testBit j) → sumB p k = x % 2 ^ k
  | 0, _ => by rw [Nat.pow_zero, Nat.mod_one]; rfl
  | k + 1, h => by
    unfold sumB
    rw [sumB_mod p x k (fun j hj => h j (by omega)), h k (by omega), Nat.mod_pow_succ, Nat.testBit_eq_decide_div_mod_eq]
    by_cases hy : x / 2 ^ k % 2 = 1
    · rw [hy, decide_eq_true rfl, if_pos rfl, Nat.mul_one]
    · have h0 : x / 2 ^ k % 2 = 0 := by omega
      rw [h0]
      simp

theorem bitN_test (n : Int) (j : Nat) (hj : j < 64) : (bitN n).testBit j = (n == (j : Int)) := by
  unfold bitN
  split
  · next h =>
    obtain ⟨k, rfl⟩ := Int.eq_ofNat_of_zero_le h.1
    rw [Int.toNat_natCast, Nat.testBit_two_pow]
    by_cases hk : k = j
    · subst hk; simp
    · rw [decide_eq_false hk]; symm; simp; omega
  · next h =>
    rw [Nat.zero_testBit]
    symm
    simp
    omega

theorem thN_test (pr : Mb → Bool) (j : Nat) (hj : j < 64) : ∀ (l : List Mb) (x : Nat), (thN pr x l).testBit j = (x.testBit j || l.any fun m => pr m && m.n == (j : Int))
  | [], x => by simp [thN]
  | m :: l, x => by
    unfold thN
    rw [thN_test pr j hj l, List.any_cons]
    cases h : pr m with
    | true => rw [if_pos rfl, Nat.testBit_or, bitN_test _ _ hj, Bool.true_and, Bool.or_assoc]
    | false => rw [if_neg (by decide), Bool.false_and, Bool.false_or]

/-- Whether a number is a node of a member: of all, or of those that are not fresh. -/
def hasR (wh : Bool) (ms : List Mb) (j : Nat) : Bool := ms.any fun m => m.n == (j : Int) && !(wh && m.f)

theorem sum_set (wh : Bool) (pr : Mb → Bool) (hpr : ∀ m, pr m = !(wh && m.f)) (ms : List Mb) : sumB (hasR wh ms) 64 = thN pr 0 ms := by
  rw [sumB_mod (hasR wh ms) (thN pr 0 ms) 64 (fun j hj => by
    rw [thN_test pr j hj ms 0, Nat.zero_testBit, Bool.false_or]
    unfold hasR
    congr 1
    funext m
    rw [hpr m, Bool.and_comm])]
  exact Nat.mod_eq_of_lt (thN_lt pr ms 0 (by decide))

set_option maxRecDepth 20000 in
set_option maxHeartbeats 2000000 in
theorem rSet_any (wh : Bool) (e : Int) (p : Option Addr) (n c : Nat) (ms : List Mb) (w : World) (hr : RdM w p n c ms) (hn : n ≤ 5864062014805) :
    Calls Try.prog 23 #[.agg #[.int .i64 e, .slice p n c], .bool wh] w fun r w' => r = .returned (.int .u64 ((sumB (hasR wh ms) 64 : Nat) : Int)) ∧ Below w.heap.size w w' := by
  have hb0 : Below w.heap.size w (w.alloc (.cells #[.int .i64 e, .slice p n c] 24)) := (Below.refl _ _).alloc (Nat.le_refl _) _
  have hl := hr.len
  have hr0 := hr.below hb0
  have hv : (w.alloc (.cells #[.int .i64 e, .slice p n c] 24)).cell? ⟨w.heap.size, 1, none⟩ = some (.slice p n c) := by simp
  clear hr
  go_enter Try.func23, Try.ntmps23
  go_wp2_with fail
  generalize (w.alloc (.cells #[.int .i64 e, .slice p n c] 24)) = w0 at *
  go_loopw [5, 11] (fun x i wr => ∃ k : Nat, k ≤ 64 ∧ i = .int .i64 k ∧ x = .int .u64 ((sumB (hasR wh ms) k : Nat) : Int) ∧ Below w0.heap.size w0 wr) (fun _ i _ => 64 - (intOf i).toNat)
  case atStart => exact ⟨0, Nat.zero_le _, rfl, rfl, Below.refl _ _⟩
  case round =>
    obtain ⟨k, hk, rfl, rfl, hb⟩ := hrel
    have hbb := hb0.trans (hb.mono hb0.size)
    by_cases h : k < 64
    · have hr1 := hr0.below hb
      have hv1 := (hb.cell (p := ⟨w.heap.size, 1, none⟩) (World.block_lt_of_cell? _ _ hv)).trans hv
      have hk1 : (k : Int) < 64 := by omega
      have hsl := sumB_lt (hasR wh ms) k
      have hpw : 2 ^ k ≤ 2 ^ 63 := Nat.pow_le_pow_right (by decide) (by omega)
      have HS : Hid (sumB (hasR wh ms) (k + 1) = sumB (hasR wh ms) k + if hasR wh ms k = true then 2 ^ k else 0) := rfl
      generalize sumB (hasR wh ms) k = S at *
      obtain ⟨w5, hw5⟩ : ∃ x, x = wr := ⟨wr, rfl⟩
      rw [← hw5] at hb hbb hr1 hv1
      rw [← hw5]
      clear hw5
      go_wp2_with fail
      go_loopw [7, 17] (fun q i wr => ∃ j : Nat, j ≤ n ∧ i = .int .i64 j ∧ q = .bool ((ms.take j).any fun m => m.n == (k : Int) && !(wh && m.f)) ∧ Below w5.heap.size w5 wr) (fun _ i _ => n - (intOf i).toNat)
      case atStart => exact ⟨0, Nat.zero_le _, rfl, rfl, Below.refl _ _⟩
      case round =>
        obtain ⟨j, hj, rfl, rfl, hb2⟩ := hrel
        have hb3 := hb.trans (hb2.mono hb.size)
        by_cases hjn : j < n
        · obtain ⟨g1, o1, rfl, c1⟩ := (hr1.below hb2).cells (by omega)
          obtain ⟨x1, x2, x3⟩ := c1 j hjn
          have hj1 : (j : Int) < (n : Int) := by omega
          have ht := take_snoc_mb (l := ms) (k := j) (by omega)
          have HT : Hid ((ms.take (j + 1)).any (fun m => m.n == (k : Int) && !(wh && m.f)) = ((ms.take j).any (fun m => m.n == (k : Int) && !(wh && m.f)) || ((ms.getD j .z0).n == (k : Int) && !(wh && (ms.getD j .z0).f)))) := by
            unfold Hid; rw [ht, List.any_append]; simp
          clear ht c1
          generalize ms.getD j .z0 = f at *
          obtain ⟨fn, fs, ff⟩ := f
          dsimp only at x1 x2 x3 HT
          generalize (ms.take j).any (fun m => m.n == (k : Int) && !(wh && m.f)) = A at *
          have hba := hb2.alloc hb2.size (.cells #[.int .i64 fn, .int .i64 fs, .bool ff] 42)
          cases A with
          | true =>
            have HT2 : Hid ((ms.take (j + 1)).any (fun m => m.n == (k : Int) && !(wh && m.f)) = true) := HT.out
            clear HT
            go_wp2_with fail
            go_roundw
            case rel => exact ⟨j + 1, by omega, by go_num, by rw [HT2.out], hba⟩
            case measure => simp [intOf]; omega
          | false =>
            rw [Bool.false_or] at HT
            cases hq : (fn == (k : Int)) with
            | false =>
              have HT2 : Hid ((ms.take (j + 1)).any (fun m => m.n == (k : Int) && !(wh && m.f)) = false) := by unfold Hid; rw [HT.out, hq]; rfl
              clear HT
              go_wp2_with fail
              go_roundw
              case rel => exact ⟨j + 1, by omega, by go_num, by rw [HT2.out], hba⟩
              case measure => simp [intOf]; omega
            | true =>
              have HT2 : Hid ((ms.take (j + 1)).any (fun m => m.n == (k : Int) && !(wh && m.f)) = !(wh && ff)) := by unfold Hid; rw [HT.out, hq]; rfl
              clear HT
              cases wh with
              | true =>
                go_wp2_with fail
                go_roundw
                case rel => exact ⟨j + 1, by omega, by go_num, by rw [HT2.out]; rfl, hba⟩
                case measure => simp [intOf]; omega
              | false =>
                go_wp2_with fail
                go_roundw
                case rel => exact ⟨j + 1, by omega, by go_num, by rw [HT2.out]; rfl, hba⟩
                case measure => simp [intOf]; omega
        · obtain rfl : j = n := by omega
          have HA : Hid ((ms.take j).any (fun m => m.n == (k : Int) && !(wh && m.f)) = hasR wh ms k) := by unfold Hid hasR; rw [List.take_of_length_le (by omega)]
          generalize (ms.take j).any (fun m => m.n == (k : Int) && !(wh && m.f)) = A at *
          clear hr1 hr0
          cases A with
          | false =>
            have HS2 : Hid (sumB (hasR wh ms) (k + 1) = S) := by unfold Hid; rw [HS.out, ← HA.out]; rfl
            go_wp2_with fail
            go_roundw
            case rel => exact ⟨k + 1, by omega, by go_num, by rw [HS2.out], hb3⟩
            case measure => simp [intOf]; omega
          | true =>
            have HS2 : Hid (sumB (hasR wh ms) (k + 1) = S + 2 ^ k) := by unfold Hid; rw [HS.out, ← HA.out]; rfl
            go_wp2_with fail
            obtain ⟨w6, hw6⟩ : ∃ x, x = wr := ⟨wr, rfl⟩
            rw [← hw6] at hb2 hb3 ⊢
            go_loopw [10, 39] (fun q i wr => ∃ t : Nat, t ≤ k ∧ i = .int .i64 t ∧ q = .int .u64 ((2 ^ t : Nat) : Int) ∧ wr = w6) (fun _ i _ => k - (intOf i).toNat)
            case atStart => exact ⟨0, Nat.zero_le _, rfl, rfl, rfl⟩
            case round =>
              obtain ⟨t, ht, rfl, rfl, hwr⟩ := hrel
              rw [hwr]
              clear hwr hw6
              by_cases htk : t < k
              · have ht1 : (t : Int) < (k : Int) := by omega
                have hp2 : 2 ^ t ≤ 2 ^ 62 := Nat.pow_le_pow_right (by decide) (by omega)
                have HP : Hid (2 ^ (t + 1) = 2 * 2 ^ t) := by unfold Hid; rw [Nat.pow_succ, Nat.mul_comm]
                generalize 2 ^ t = y at *
                have hy : y ≤ 4611686018427387904 := hp2
                have hyw : IntKind.u64.wrap (2 * (y : Int)) = ((2 * y : Nat) : Int) := by rw [IntKind.wrap_u64]; omega
                go_wp2_with fail
                go_roundw
                case rel => exact ⟨t + 1, by omega, by go_num, by rw [HP.out]; first | rfl | (congr 1), trivial⟩
                case measure => simp [intOf]; omega
              · obtain rfl : t = k := by omega
                have ht1 : ¬ (t : Int) < (t : Int) := by omega
                generalize 2 ^ t = y at *
                have hy : y ≤ 9223372036854775808 := hpw
                have hyw : IntKind.u64.wrap ((S : Int) + (y : Int)) = ((S + y : Nat) : Int) := by rw [IntKind.wrap_u64]; omega
                go_wp2_with fail
                go_roundw
                case rel => exact ⟨t + 1, by omega, by go_num, by rw [HS2.out]; first | rfl | (congr 1), hb3⟩
                case measure => simp [intOf]; omega
    · obtain rfl : k = 64 := by omega
      clear hr0
      go_wp2_with fail
      go_ret
      exact ⟨rfl, hbb⟩

end Go.Proofs.Ytnhdfojbffaifaa.M
