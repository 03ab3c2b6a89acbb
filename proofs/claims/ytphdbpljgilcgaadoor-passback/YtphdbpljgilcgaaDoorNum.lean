/-
  Own text: reading a number off bytes in plain words, and the contract of the program's number.
-/
import Derived.Test.YtphdbpljgilcgaaDoorSum
namespace Go.Proofs.YtphdbpljgilcgaaDoor.M
open Go.ChangeShapes Go.WideShapes Go.ChangeAt Go.RowKit

/-- Reading goes on at byte number i, with what was read so far: the number, how many bytes it has, the error. -/
def numG (i acc : Nat) : List Int → Nat × Nat × Nat
  | [] => (0, 0, 2)
  | c :: r =>
    if (i = 9 ∧ 1 < c.toNat % 128) ∨ (9 < i ∧ 0 < c.toNat % 128) then (0, 0, 5)
    else if c.toNat = 0 ∧ 0 < i then (0, 0, 10)
    else if c.toNat < 128 then (acc + c.toNat % 128 * 2 ^ (7 * i), i + 1, 0)
    else numG (i + 1) (acc + c.toNat % 128 * 2 ^ (7 * i)) r

/-- Reading a number. -/
def numR (xs : List Int) : Nat × Nat × Nat := numG 0 0 xs

theorem drop_getD {xs : List Int} {k : Nat} (h : k < xs.length) : xs.drop k = xs.getD k 0 :: xs.drop (k + 1) := by
  rw [List.drop_eq_getElem_cons h, List.getD_eq_getElem?_getD, List.getElem?_eq_getElem h]
  rfl

theorem and_127 (z : Nat) (h : z < 256) : bits .and .u8 (z : Int) 127 = ((z % 128 : Nat) : Int) := by
  rw [show (127 : Int) = ((127 : Nat) : Int) from rfl, u8_and_nat z 127 h (by omega), nat_mask7]

theorem ret3 {xs : List Int} {a b c : Nat} {A B C : Int} (h : numR xs = (a, b, c)) (ha : A = a) (hb : B = b) (hc : C = c) :
    Ending.returned (.tuple #[.int .u64 A, .int .i64 B, .int .i64 C]) = .returned (.tuple #[.int .u64 (numR xs).1, .int .i64 (numR xs).2.1, .int .i64 (numR xs).2.2]) := by
  rw [h, ha, hb, hc]

theorem or_zero_u64 (x : Nat) (h : x < 18446744073709551616) : bits .or .u64 (x : Int) (IntKind.u64.wrap 0) = (x : Int) := by
  rw [show IntKind.u64.wrap 0 = ((0 : Nat) : Int) by rw [IntKind.wrap_u64]; rfl, u64_or_nat x 0 h (by omega), Nat.or_zero]

theorem pow_le56 {k : Nat} (h : k < 9) : 2 ^ (7 * k) ≤ 72057594037927936 := by
  have h1 : 7 * k ≤ 56 := by omega
  have h2 : 2 ^ (7 * k) ≤ 2 ^ 56 := Nat.pow_le_pow_right (by decide) h1
  exact h2

theorem shift_lt {k l : Nat} (h : k ≤ 9) (hl : l < 128) (h9 : k = 9 → l ≤ 1) : l * 2 ^ (7 * k) ≤ 9223372036854775808 := by
  rcases (show k < 9 ∨ k = 9 by omega) with h1 | rfl
  · have := pow_le56 h1
    have h2 : l * 2 ^ (7 * k) ≤ 127 * 72057594037927936 := Nat.mul_le_mul (by omega) this
    omega
  · have := h9 rfl
    have h2 : l * 2 ^ (7 * 9) ≤ 1 * 9223372036854775808 := Nat.mul_le_mul this (by decide)
    omega

theorem sum_lt {k l acc : Nat} (h : k ≤ 9) (hl : l < 128) (h9 : k = 9 → l ≤ 1) (ha : acc < 2 ^ (7 * k)) : acc + l * 2 ^ (7 * k) < 18446744073709551616 := by
  rcases (show k < 9 ∨ k = 9 by omega) with h1 | rfl
  · have h2 := pow_le56 h1
    have : l * 2 ^ (7 * k) ≤ 127 * 72057594037927936 := Nat.mul_le_mul (by omega) h2
    omega
  · have := h9 rfl
    have h3 : l * 2 ^ (7 * 9) ≤ 1 * 9223372036854775808 := Nat.mul_le_mul this (by decide)
    have h4 : (2 : Nat) ^ (7 * 9) = 9223372036854775808 := by decide
    omega

theorem sum_lt_next {k l acc : Nat} (hl : l < 128) (ha : acc < 2 ^ (7 * k)) : acc + l * 2 ^ (7 * k) < 2 ^ (7 * (k + 1)) := by
  have e : 2 ^ (7 * (k + 1)) = 128 * 2 ^ (7 * k) := by rw [show 7 * (k + 1) = 7 * k + 7 by omega, Nat.pow_add, Nat.mul_comm]
  have : l * 2 ^ (7 * k) ≤ 127 * 2 ^ (7 * k) := Nat.mul_le_mul (by omega) (Nat.le_refl _)
  omega

theorem or_shift {k l acc : Nat} (h : k ≤ 9) (hl : l < 128) (h9 : k = 9 → l ≤ 1) (ha : acc < 2 ^ (7 * k)) : bits .or .u64 (acc : Int) (IntKind.u64.wrap ((l : Int) * 2 ^ (7 * k))) = ((acc + l * 2 ^ (7 * k) : Nat) : Int) := by
  have h1 := shift_lt h hl h9
  have h2 := sum_lt h hl h9 ha
  have e : ((l : Int) * 2 ^ (7 * k)) = ((l * 2 ^ (7 * k) : Nat) : Int) := by rw [Int.natCast_mul, Int.natCast_pow]; rfl
  rw [e]
  generalize hs : l * 2 ^ (7 * k) = s at *
  rw [IntKind.wrap_u64, show (s : Int) % 18446744073709551616 = (s : Int) by omega, u64_or_nat acc s (by omega) (by omega), Nat.or_comm, nat_join (7 * k) s acc (by rw [← hs]; exact Nat.mul_mod_left _ _) ha, Nat.add_comm]

theorem or_shift9 {l acc : Nat} (hl : l ≤ 1) (ha : acc < 2 ^ (7 * 9)) : bits .or .u64 (acc : Int) ((l : Int) * 9223372036854775808) = ((acc + l * 2 ^ (7 * 9) : Nat) : Int) := by
  have h := or_shift (k := 9) (l := l) (acc := acc) (Nat.le_refl _) (by omega) (fun _ => hl) ha
  rw [IntKind.wrap_u64, show ((l : Int) * 2 ^ (7 * 9)) % 18446744073709551616 = (l : Int) * 9223372036854775808 by omega] at h
  exact h

theorem shift_none {k z : Nat} (hz : z % 128 ≤ 0) : Op.shift .shl .u64 ((z : Int) % 128) .i64 (7 * (k : Int)) = pure (.int .u64 0) := by
  rw [shift_shl_any .u64 .i64 _ _ (by omega), show (z : Int) % 128 = 0 by omega, Int.zero_mul]
  rfl

set_option maxRecDepth 20000 in
set_option maxHeartbeats 1000000 in
theorem number_any (p : Option Addr) (n c : Nat) (xs : List Int) (w : World) (hr : Rd .u8 w p n c xs) (hx : By xs) (hn : n ≤ 1099511627776) :
    Calls Tryd.prog 44 #[.slice p n c] w fun e w' => e = .returned (.tuple #[.int .u64 (numR xs).1, .int .i64 (numR xs).2.1, .int .i64 (numR xs).2.2]) ∧ w' = w := by
  have hxl := hr.len
  go_enter Tryd.func44, Tryd.ntmps44
  go_wp2
  go_loop [5, 11] (fun v i => ∃ k acc : Nat, k ≤ n ∧ i = .int .i64 k ∧ v = .int .u64 acc ∧ acc < 18446744073709551616 ∧ Hid (k ≤ 9 → acc < 2 ^ (7 * k)) ∧ Hid (numR xs = numG k acc (xs.drop k))) (fun _ i => n - (intOf i).toNat)
  case atStart => exact ⟨0, 0, Nat.zero_le _, rfl, rfl, by omega, (fun _ => by simp : (0 : Nat) ≤ 9 → 0 < 2 ^ (7 * 0)), (by simp [numR] : numR xs = numG 0 0 (xs.drop 0))⟩
  case round =>
    obtain ⟨k, acc, hk, rfl, rfl, hacc, hlt, he⟩ := hrel
    by_cases h : k < n
    · obtain ⟨b, o, rfl, hc⟩ := hr.cells (by omega)
      have hcx := hc k h
      have hz := hx (xs.getD k 0) (getD_mem (by omega))
      have he2 := he.out
      rw [drop_getD (by omega)] at he2
      generalize xs.getD k 0 = z at hcx hz he2
      obtain ⟨z, rfl⟩ := Int.eq_ofNat_of_zero_le hz.1
      have ha := and_127 z (by omega)
      have hl : z % 128 < 128 := by omega
      have HE : Hid (numR xs = numG k acc ((z : Int) :: xs.drop (k + 1))) := he2
      clear hc hr hx hxl he he2 hz
      by_cases hF : z = 0 ∧ 0 < k
      · obtain ⟨hz0, hk0⟩ := hF
        have HR : Hid (numR xs = (0, 0, 10)) := by
          show _ = _
          rw [HE.out, numG, if_neg (by simp [hz0]), if_pos ⟨by simp [hz0], by omega⟩]
        have hzb : ((z : Int) == 0) = true := by simp [hz0]
        have hl0 : z % 128 ≤ 0 := by omega
        clear HE hlt hz0
        rcases (show k < 9 ∨ k = 9 ∨ 9 < k by omega) with h9 | rfl | h9
        · go_wp2
          go_ret3
          exact ⟨ret3 HR.out rfl rfl rfl, rfl⟩
        · go_wp2
          go_ret3
          exact ⟨ret3 HR.out rfl rfl rfl, rfl⟩
        · have hsh := shift_none (k := k) hl0
          go_wp2
          go_ret3
          exact ⟨ret3 HR.out rfl rfl rfl, rfl⟩
      · by_cases hR : (k = 9 ∧ 1 < z % 128) ∨ (9 < k ∧ 0 < z % 128)
        · have HR : Hid (numR xs = (0, 0, 5)) := by
            show _ = _
            rw [HE.out, numG, if_pos (by simpa using hR)]
          clear HE hlt hF
          rcases hR with ⟨rfl, h1⟩ | ⟨h9, h1⟩
          · go_wp2
            go_ret3
            exact ⟨ret3 HR.out rfl rfl rfl, rfl⟩
          · go_wp2
            go_ret3
            exact ⟨ret3 HR.out rfl rfl rfl, rfl⟩
        · by_cases h128 : z < 128
          · have hk9 : k ≤ 9 := by omega
            have h91 : k = 9 → z % 128 ≤ 1 := by omega
            have hlt2 := hlt.out hk9
            have H0 := or_shift (k := k) (l := z % 128) hk9 hl h91 hlt2
            have HR : Hid (numR xs = (acc + z % 128 * 2 ^ (7 * k), k + 1, 0)) := by
              show _ = _
              rw [HE.out, numG, if_neg (by simpa using hR), if_neg (by simp; omega), if_pos (by simpa using h128)]
              simp
            have H1 : Hid (bits .or .u64 (acc : Int) (IntKind.u64.wrap (((z % 128 : Nat) : Int) * 2 ^ (7 * k))) = ((acc + z % 128 * 2 ^ (7 * k) : Nat) : Int)) := H0
            clear HE hlt H0
            rcases (show (k = 0 ∧ z = 0) ∨ (k < 9 ∧ 0 < z) ∨ (k = 9 ∧ z % 128 ≤ 1 ∧ 0 < z) by omega) with ⟨h9, hz⟩ | ⟨h9, hz⟩ | ⟨rfl, h1, hz⟩
            · have hzb : ((z : Int) == 0) = true := by simp [hz]
              have hk0 : k ≤ 0 := by omega
              clear hR h91 hF hz h9 hlt2
              go_wp2
              go_ret3
              exact ⟨ret3 HR.out (by have := H1.out; first | exact this | simpa using this) (by omega) rfl, rfl⟩
            · have hzb : ((z : Int) == 0) = false := by simp; omega
              clear hR h91 hF hlt2
              go_wp2
              go_ret3
              exact ⟨ret3 HR.out (by have := H1.out; first | exact this | simpa using this) (by omega) rfl, rfl⟩
            · have hzb : ((z : Int) == 0) = false := by simp; omega
              have H9 : Hid (bits .or .u64 (acc : Int) (((z % 128 : Nat) : Int) * 9223372036854775808) = ((acc + z % 128 * 2 ^ (7 * 9) : Nat) : Int)) := or_shift9 h1 hlt2
              clear hR h91 hF hlt2 H1
              go_wp2
              go_ret3
              exact ⟨ret3 HR.out (by have := H9.out; first | exact this | simpa using this) (by omega) rfl, rfl⟩
          · have hzb : ((z : Int) == 0) = false := by simp; omega
            by_cases hk9 : k ≤ 9
            · have h91 : k = 9 → z % 128 ≤ 1 := by omega
              have hlt2 := hlt.out hk9
              have H1 : Hid (bits .or .u64 (acc : Int) (IntKind.u64.wrap (((z % 128 : Nat) : Int) * 2 ^ (7 * k))) = ((acc + z % 128 * 2 ^ (7 * k) : Nat) : Int)) := or_shift (k := k) (l := z % 128) hk9 hl h91 hlt2
              have HR : Hid (numR xs = numG (k + 1) (acc + z % 128 * 2 ^ (7 * k)) (xs.drop (k + 1))) := by
                show _ = _
                rw [HE.out, numG, if_neg (by simpa using hR), if_neg (by simp; omega), if_neg (by simpa using h128)]
                simp
              have HB : Hid (acc + z % 128 * 2 ^ (7 * k) < 18446744073709551616) := sum_lt hk9 hl h91 hlt2
              have HN : Hid (k + 1 ≤ 9 → acc + z % 128 * 2 ^ (7 * k) < 2 ^ (7 * (k + 1))) := fun _ => sum_lt_next hl hlt2
              clear HE hlt
              rcases (show k < 9 ∨ (k = 9 ∧ z % 128 ≤ 1) by omega) with h9 | ⟨rfl, h1⟩
              · clear hR h91 hF hlt2
                go_wp2
                go_round
                case rel => exact ⟨k + 1, acc + z % 128 * 2 ^ (7 * k), by omega, by go_num, congrArg _ (by have := H1.out; first | exact this | simpa using this), HB.out, HN, HR⟩
                case measure => simp [intOf]; omega
              · have H9 : Hid (bits .or .u64 (acc : Int) (((z % 128 : Nat) : Int) * 9223372036854775808) = ((acc + z % 128 * 2 ^ (7 * 9) : Nat) : Int)) := or_shift9 h1 hlt2
                clear hR h91 hF hlt2 H1
                go_wp2
                go_round
                case rel => exact ⟨9 + 1, acc + z % 128 * 2 ^ (7 * 9), by omega, by go_num, congrArg _ (by have := H9.out; first | exact this | simpa using this), HB.out, HN, HR⟩
                case measure => simp [intOf]; omega
            · have hl0 : z % 128 ≤ 0 := by omega
              have HR : Hid (numR xs = numG (k + 1) acc (xs.drop (k + 1))) := by
                show _ = _
                rw [HE.out, numG, if_neg (by simpa using hR), if_neg (by simp; omega), if_neg (by simpa using h128)]
                rw [show (z : Int).toNat % 128 = 0 by simp; omega]
                simp
              have HN : Hid (k + 1 ≤ 9 → acc < 2 ^ (7 * (k + 1))) := fun h => by omega
              clear HE hlt hR hF
              have h9 : 9 < k := by omega
              have hsh := shift_none (k := k) hl0
              have H0 := or_zero_u64 acc hacc
              go_wp2
              go_round
              case rel => exact ⟨k + 1, acc, by omega, by go_num, congrArg _ (by first | exact H0 | simpa using H0), hacc, HN, HR⟩
              case measure => simp [intOf]; omega
    · have HR : Hid (numR xs = (0, 0, 2)) := by
        show _ = _
        rw [he.out, List.drop_of_length_le (by omega)]
        rfl
      clear he hlt hr hx
      go_wp2
      go_ret3
      exact ⟨ret3 HR.out rfl rfl rfl, rfl⟩
end Go.Proofs.YtphdbpljgilcgaaDoor.M
