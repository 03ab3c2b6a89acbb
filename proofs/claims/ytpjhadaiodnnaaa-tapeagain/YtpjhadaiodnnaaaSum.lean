/-
  Own text: the check sum in plain words, and contracts of the program's Sum and of the reference's.
-/
import Derived.Test.YtpjhadaiodnnaaaPut
namespace Go.Proofs.Ytpjhadaiodnnaaa.M
open Go.ChangeShapes Go.WideShapes Go.ChangeAt Go.RowKit

/-- One bit of the sum. -/
def crcStep (c : Nat) : Nat := if c % 2 = 1 then (c / 2) ^^^ 2197175160 else c / 2
/-- Several bits. -/
def crcIt : Nat → Nat → Nat
  | 0, c => c
  | j + 1, c => crcStep (crcIt j c)
/-- The sum of a list, from a beginning on. -/
def crcFrom (c : Nat) (xs : List Int) : Nat := xs.foldl (fun c x => crcIt 8 (c ^^^ x.toNat)) c
/-- The sum. -/
def sumN (xs : List Int) : Nat := 4294967295 - crcFrom 4294967295 xs

theorem xor_lt32 {a b : Nat} (ha : a < 4294967296) (hb : b < 4294967296) : a ^^^ b < 4294967296 := Nat.xor_lt_two_pow (n := 32) ha hb

theorem crcStep_lt {c : Nat} (h : c < 4294967296) : crcStep c < 4294967296 := by
  unfold crcStep
  split
  · exact xor_lt32 (by omega) (by omega)
  · omega

theorem crcIt_lt {c : Nat} (h : c < 4294967296) : ∀ j, crcIt j c < 4294967296
  | 0 => h
  | j + 1 => crcStep_lt (crcIt_lt h j)

theorem crcFrom_lt : ∀ {xs : List Int} {c : Nat}, By xs → c < 4294967296 → crcFrom c xs < 4294967296
  | [], _, _, h => h
  | x :: xs, c, hb, h => by
    have h1 := hb x (by simp)
    exact crcFrom_lt (xs := xs) (fun y hy => hb y (by simp [hy])) (crcIt_lt (xor_lt32 h (by omega)) 8)

theorem sumN_lt (xs : List Int) : sumN xs < 4294967296 := by unfold sumN; omega

theorem crcFrom_snoc (c : Nat) {xs : List Int} {k : Nat} (h : k < xs.length) : crcFrom c (xs.take (k + 1)) = crcIt 8 (crcFrom c (xs.take k) ^^^ (xs.getD k 0).toNat) := by
  unfold crcFrom
  rw [take_snoc h, List.foldl_append]
  rfl

theorem By.take {xs : List Int} (h : By xs) (k : Nat) : By (xs.take k) := fun x hx => h x (List.mem_of_mem_take hx)

theorem xor_u32_nat (c x : Nat) (hc : c < 4294967296) (hx : x < 4294967296) : bits .xor .u32 (c : Int) (x : Int) = ((c ^^^ x : Nat) : Int) := u32_xor_nat c x hc hx

theorem and_one_32 (c : Nat) (hc : c < 4294967296) : bits .and .u32 (c : Int) 1 = ((c % 2 : Nat) : Int) := by
  rw [show (1 : Int) = ((1 : Nat) : Int) from rfl, u32_and_nat c 1 hc (by omega), nat_mask1]

theorem step_u32 (c : Nat) (hc : c < 4294967296) : bits .xor .u32 ((c : Int) / 2) (2197175160 * bits .and .u32 (c : Int) 1 % 4294967296) = (crcStep c : Int) := by
  rw [and_one_32 c hc]
  unfold crcStep
  by_cases h : c % 2 = 1
  · rw [if_pos h, h, show 2197175160 * ((1 : Nat) : Int) % 4294967296 = ((2197175160 : Nat) : Int) by omega, show (c : Int) / 2 = ((c / 2 : Nat) : Int) by omega]
    exact xor_u32_nat _ _ (by omega) (by omega)
  · rw [if_neg h, show c % 2 = 0 by omega, show 2197175160 * ((0 : Nat) : Int) % 4294967296 = ((0 : Nat) : Int) by omega, show (c : Int) / 2 = ((c / 2 : Nat) : Int) by omega]
    rw [xor_u32_nat _ _ (by omega) (by omega), Nat.xor_zero]

theorem ones32 : BitVec.ofInt 32 IntKind.u32.max = BitVec.allOnes 32 := by decide +kernel

theorem not_u32 (c : Nat) (hc : c < 4294967296) : bits .xor .u32 IntKind.u32.max (c : Int) = ((4294967295 - c : Nat) : Int) := by
  show IntKind.u32.wrap ((BitVec.ofInt 32 IntKind.u32.max ^^^ BitVec.ofInt 32 (c : Int)).toNat : Int) = _
  rw [ones32, BitVec.xor_comm, BitVec.xor_allOnes, BitVec.toNat_not, ofInt_u32 c hc, IntKind.wrap_u32']
  omega

theorem ret_int32 {k : IntKind} {a b : Int} (h : a = b) : Ending.returned (.int k a) = .returned (.int k b) := by rw [h]

set_option maxRecDepth 20000 in
set_option maxHeartbeats 400000 in
theorem sum_any (p : Option Addr) (n c : Nat) (xs : List Int) (w : World) (hr : Rd .u8 w p n c xs) (hx : By xs) (hn : n ≤ 140737488351232) :
    Calls Try.prog 104 #[.slice p n c] w fun e w' => e = .returned (.int .u32 (sumN xs)) ∧ w' = w := by
  have hxl := hr.len
  go_enter Try.func104, Try.ntmps104
  go_wp2
  go_loop [3, 9] (fun v i => ∃ k : Nat, k ≤ n ∧ i = .int .i64 k ∧ v = .int .u32 (crcFrom 4294967295 (xs.take k))) (fun _ i => n - (intOf i).toNat)
  case atStart => exact ⟨0, Nat.zero_le _, rfl, rfl⟩
  case round =>
    obtain ⟨k, hk, rfl, rfl⟩ := hrel
    have hcl : crcFrom 4294967295 (xs.take k) < 4294967296 := crcFrom_lt (hx.take k) (by omega)
    by_cases h : k < n
    · obtain ⟨b, o, rfl, hc⟩ := hr.cells (by omega)
      have hcx := hc k h
      have hz := hx (xs.getD k 0) (getD_mem (by omega))
      have HS : Hid (crcFrom 4294967295 (xs.take (k + 1)) = crcIt 8 (crcFrom 4294967295 (xs.take k) ^^^ (xs.getD k 0).toNat)) := crcFrom_snoc _ (by omega)
      clear hc hr hx hxl
      generalize xs.getD k 0 = z at hcx hz HS
      generalize crcFrom 4294967295 (xs.take k) = c0 at hcl HS
      obtain ⟨z, rfl⟩ := Int.eq_ofNat_of_zero_le hz.1
      have hx1 := xor_u32_nat c0 z hcl (by omega)
      have hx2 : c0 ^^^ z < 4294967296 := xor_lt32 hcl (by omega)
      go_wp2
      go_loop [3, 17] (fun v i => ∃ j : Nat, j ≤ 8 ∧ i = .int .i64 j ∧ v = .int .u32 (crcIt j (c0 ^^^ z))) (fun _ i => 8 - (intOf i).toNat)
      case atStart => exact ⟨0, Nat.zero_le _, rfl, rfl⟩
      case round =>
        obtain ⟨j, hj, rfl, rfl⟩ := hrel
        have hjl := crcIt_lt hx2 j
        have hst := step_u32 _ hjl
        have HT : Hid (crcIt (j + 1) (c0 ^^^ z) = crcStep (crcIt j (c0 ^^^ z))) := rfl
        by_cases h8 : j < 8
        · clear hx1
          generalize crcIt j (c0 ^^^ z) = c1 at hjl hst HT
          go_wp2
          go_round
          case rel => exact ⟨j + 1, by omega, by go_num, by rw [HT.out]⟩
          case measure => simp [intOf]; omega
        · obtain rfl : j = 8 := by omega
          clear hst hx1
          go_wp2
          go_round
          case rel => exact ⟨k + 1, by omega, by go_num, by rw [HS.out]; rfl⟩
          case measure => simp [intOf]; omega
    · obtain rfl : k = n := by omega
      have e1 : xs.take k = xs := List.take_of_length_le (by omega)
      rw [e1] at hcl
      rw [e1]
      have HF : Hid (sumN xs = 4294967295 - crcFrom 4294967295 xs) := rfl
      generalize crcFrom 4294967295 xs = c1 at hcl HF
      go_wp2
      go_ret
      exact ⟨ret_int32 (by rw [not_u32 c1 hcl, HF.out]), rfl⟩

theorem step_odd (c : Nat) (hc : c < 4294967296) (h : c % 2 = 1) : bits .xor .u32 ((c : Int) / 2) 2197175160 = (crcStep c : Int) := by
  unfold crcStep
  rw [if_pos h, show (c : Int) / 2 = ((c / 2 : Nat) : Int) by omega]
  exact xor_u32_nat _ 2197175160 (by omega) (by omega)

theorem step_even (c : Nat) (h : c % 2 ≠ 1) : (c : Int) / 2 = (crcStep c : Int) := by
  unfold crcStep
  rw [if_neg h]
  omega

set_option maxRecDepth 20000 in
set_option maxHeartbeats 400000 in
theorem rsum_any (p : Option Addr) (n c : Nat) (xs : List Int) (w : World) (hr : Rd .u8 w p n c xs) (hx : By xs) (hn : n ≤ 140737488351232) :
    Calls Try.prog 99 #[.slice p n c] w fun e w' => e = .returned (.int .u32 (sumN xs)) ∧ w' = w := by
  have hxl := hr.len
  go_enter Try.func99, Try.ntmps99
  go_wp2
  go_loop [3, 9] (fun v i => ∃ k : Nat, k ≤ n ∧ i = .int .i64 k ∧ v = .int .u32 (crcFrom 4294967295 (xs.take k))) (fun _ i => n - (intOf i).toNat)
  case atStart => exact ⟨0, Nat.zero_le _, rfl, rfl⟩
  case round =>
    obtain ⟨k, hk, rfl, rfl⟩ := hrel
    have hcl : crcFrom 4294967295 (xs.take k) < 4294967296 := crcFrom_lt (hx.take k) (by omega)
    by_cases h : k < n
    · obtain ⟨b, o, rfl, hc⟩ := hr.cells (by omega)
      have hcx := hc k h
      have hz := hx (xs.getD k 0) (getD_mem (by omega))
      have HS : Hid (crcFrom 4294967295 (xs.take (k + 1)) = crcIt 8 (crcFrom 4294967295 (xs.take k) ^^^ (xs.getD k 0).toNat)) := crcFrom_snoc _ (by omega)
      clear hc hr hx hxl
      generalize xs.getD k 0 = z at hcx hz HS
      generalize crcFrom 4294967295 (xs.take k) = c0 at hcl HS
      obtain ⟨z, rfl⟩ := Int.eq_ofNat_of_zero_le hz.1
      have hx1 := xor_u32_nat c0 z hcl (by omega)
      have hx2 : c0 ^^^ z < 4294967296 := xor_lt32 hcl (by omega)
      go_wp2
      go_loop [3, 17] (fun v i => ∃ j : Nat, j ≤ 8 ∧ i = .int .i64 j ∧ v = .int .u32 (crcIt j (c0 ^^^ z))) (fun _ i => 8 - (intOf i).toNat)
      case atStart => exact ⟨0, Nat.zero_le _, rfl, rfl⟩
      case round =>
        obtain ⟨j, hj, rfl, rfl⟩ := hrel
        have hjl := crcIt_lt hx2 j
        have HT : Hid (crcIt (j + 1) (c0 ^^^ z) = crcStep (crcIt j (c0 ^^^ z))) := rfl
        by_cases h8 : j < 8
        · clear hx1
          generalize crcIt j (c0 ^^^ z) = c1 at hjl HT
          by_cases h2 : c1 % 2 = 1
          · have hb : ((c1 : Int) % 2 == 1) = true := by simp; omega
            have hst := step_odd c1 hjl h2
            clear h2
            go_wp2
            go_round
            case rel => exact ⟨j + 1, by omega, by go_num, by rw [HT.out]⟩
            case measure => simp [intOf]; omega
          · have hb : ((c1 : Int) % 2 == 1) = false := by simp; omega
            have HE : Hid ((c1 : Int) / 2 = (crcStep c1 : Int)) := step_even c1 h2
            clear h2
            go_wp2
            go_round
            case rel => exact ⟨j + 1, by omega, by go_num, by rw [HT.out, HE.out]⟩
            case measure => simp [intOf]; omega
        · obtain rfl : j = 8 := by omega
          clear hx1
          go_wp2
          go_round
          case rel => exact ⟨k + 1, by omega, by go_num, by rw [HS.out]; rfl⟩
          case measure => simp [intOf]; omega
    · obtain rfl : k = n := by omega
      have e1 : xs.take k = xs := List.take_of_length_le (by omega)
      rw [e1] at hcl
      rw [e1]
      have HF : Hid (sumN xs = 4294967295 - crcFrom 4294967295 xs) := rfl
      generalize crcFrom 4294967295 xs = c1 at hcl HF
      go_wp2
      go_ret
      exact ⟨ret_int32 (by rw [HF.out]; omega), rfl⟩

end Go.Proofs.Ytpjhadaiodnnaaa.M
