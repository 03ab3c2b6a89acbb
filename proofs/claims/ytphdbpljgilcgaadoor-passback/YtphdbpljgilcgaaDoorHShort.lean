/-
  Own text: the contract of Short, by a right key.
-/
import Derived.Test.YtphdbpljgilcgaaDoorGOf
namespace Go.Proofs.YtphdbpljgilcgaaDoor.M
open Go.ChangeShapes Go.WideShapes Go.ChangeAt Go.RowKit

/-- The first bytes as a number, the highest first. -/
def shN (l : List Int) : Nat → Nat
  | 0 => 0
  | k + 1 => 256 * shN l k + (l.getD k 0).toNat

theorem shN_lt {l : List Int} (h : Byt l) : ∀ k, shN l k < 256 ^ k
  | 0 => by show 0 < 1; decide
  | k + 1 => by
    have h1 := shN_lt h k
    have h2 := h.get k
    rw [Nat.pow_succ]
    show 256 * shN l k + (l.getD k 0).toNat < _
    omega

theorem digest_by (kl l : List Int) : Byt (digest kl l) := qB_by _

theorem sh_step {n x : Nat} (hn : n < 72057594037927936) (hx : x < 256) : bits .or .u64 ((n : Int) * 256) (x : Int) = ((256 * n + x : Nat) : Int) := by
  have e : (n : Int) * 256 = ((2 ^ 8 * n : Nat) : Int) := by rw [show (2 : Nat) ^ 8 = 256 from rfl]; omega
  rw [e, u64_or_nat _ _ (by rw [show (2 : Nat) ^ 8 = 256 from rfl]; omega) (by omega), ← Nat.two_pow_add_eq_or_of_lt (show x < 2 ^ 8 from hx)]

set_option maxRecDepth 20000 in
set_option maxHeartbeats 1000000 in
theorem short_any (kp : Option Addr) (kc : Nat) (kl : List Int) (p : Option Addr) (n c : Nat) (l : List Int) (w : World) (hk : Rd .u8 w kp 16 kc kl) (hkb : Byt kl) (hr : Rd .u8 w p n c l) (hby : Byt l) :
    Calls Tryd.prog 18 #[.slice kp 16 kc, .slice p n c] w fun r w' => r = .returned (.tuple #[.int .u64 (shN (digest kl l) 8), .int .i64 0]) ∧ Below w.heap.size w w' := by
  have cO := of_any kp kc kl p n c l w hk hkb hr hby
  have hlD := digest_len kl l
  have hbD := digest_by kl l
  generalize digest kl l = D at cO hlD hbD ⊢
  have hi1 := info_nums .u8 D infoB hlD
  clear hk hr
  go_enter Tryd.func18, Tryd.ntmps18
  go_wp2_with fail
  refine cO.mono ?_
  rintro e w3 ⟨rfl, hbb4⟩
  clear cO
  have hY : ArrI 22 .u8 (w3.alloc (.cells (nums .u8 (List.replicate 16 0)) 22)) w3.heap.size (List.replicate 16 0) := ArrI.new _ .u8 w3 _
  have hbb5 := (hbb4.alloc hbb4.size (.cells (nums .u8 (List.replicate 16 0)) 22)).trans (below_setRow _ w3.heap.size (nums .u8 D) hbb4.size)
  have hzD : (nums .u8 (List.replicate 16 0)).size = (nums .u8 D).size := by rw [nums_size, nums_size, hlD]; rfl
  have hY5 := hY.setRow D
  rw [zero16] at hY hY5 hbb5
  go_wp2_with (refine wpList_store_row rfl 22 _ _ rfl w3.heap.size (nums .u8 D) rfl rfl _ _ hY hi1 hzD (nums_one _ _) ?_)
  generalize (w3.alloc _).setRow w3.heap.size (nums .u8 D) = W5 at hY5 hbb5 ⊢
  clear hY
  go_loopw [8, 22] (fun v i wr => ∃ k : Nat, k ≤ 8 ∧ i = .int .i64 k ∧ v = .int .u64 (shN D k) ∧ ArrI 22 .u8 wr w3.heap.size D ∧ Below w.heap.size w wr) (fun _ i _ => 8 - (intOf i).toNat)
  case atStart => exact ⟨0, by omega, rfl, rfl, hY5, hbb5⟩
  case round =>
    clear hY5 hbb5
    obtain ⟨k, hk, rfl, rfl, hY5, hbb5⟩ := hrel
    by_cases h : k < 8
    · have hc := hY5.cell (i := k) (by omega)
      have h2 := hbD.get k
      have hlt := shN_lt hbD k
      have hp : 256 ^ k ≤ 256 ^ 7 := Nat.pow_le_pow_right (by decide) (by omega)
      have hlt2 : shN D k < 72057594037927936 := Nat.lt_of_lt_of_le hlt hp
      obtain ⟨x, ex⟩ : ∃ x : Nat, D.getD k 0 = (x : Int) := ⟨(D.getD k 0).toNat, by omega⟩
      have HS : Hid (shN D (k + 1) = 256 * shN D k + x) := by
        show 256 * shN D k + (D.getD k 0).toNat = _
        rw [ex, Int.toNat_natCast]
      rw [ex] at hc h2
      have e1 := sh_step (n := shN D k) (x := x) hlt2 (by omega)
      generalize shN D k = v at HS hlt2 e1
      clear hlt hp ex
      go_wp2_with fail
      go_roundw
      case rel => exact ⟨k + 1, by omega, by go_num, by rw [HS.out]; simp only [Value.int.injEq, true_and]; omega, hY5, hbb5⟩
      case measure => simp [intOf]; omega
    · obtain rfl : k = 8 := by omega
      go_wp2_with fail
      exact bodyPost_ret (results_tmp2 rfl _ _ _) rfl ⟨rfl, hbb5⟩

end Go.Proofs.YtphdbpljgilcgaaDoor.M
