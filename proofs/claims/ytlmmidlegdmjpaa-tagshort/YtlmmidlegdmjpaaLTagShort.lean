/-
  Own text: the walk of the law TagShort.
-/
import Derived.Test.YtlmmidlegdmjpaaGRefOf3
import Derived.Test.YtlmmidlegdmjpaaGRefBad
import Derived.Test.YtlmmidlegdmjpaaGRefShort
import Derived.Test.YtlmmidlegdmjpaaOpen
namespace Go.Proofs.Ytlmmidlegdmjpaa.M
open Go.ChangeShapes Go.WideShapes Go.ChangeAt Go.RowKit

theorem shN_zero : shN (List.replicate 16 0) 8 = 0 := by decide

theorem shN_at (D : List Int) (hbD : Byt D) (k : Nat) (hk : k < 8) : ((shN D 8 / 2 ^ (56 - 8 * k) % 256 : Nat) : Int) = D.getD k 0 := by
  have h := fun i => hbD.get i
  have e : ∀ i, ∃ x : Nat, D.getD i 0 = (x : Int) ∧ x < 256 := fun i => ⟨(D.getD i 0).toNat, by have := h i; omega, by have := h i; omega⟩
  obtain ⟨x0, e0, l0⟩ := e 0
  obtain ⟨x1, e1, l1⟩ := e 1
  obtain ⟨x2, e2, l2⟩ := e 2
  obtain ⟨x3, e3, l3⟩ := e 3
  obtain ⟨x4, e4, l4⟩ := e 4
  obtain ⟨x5, e5, l5⟩ := e 5
  obtain ⟨x6, e6, l6⟩ := e 6
  obtain ⟨x7, e7, l7⟩ := e 7
  have E : shN D 8 = 256 * (256 * (256 * (256 * (256 * (256 * (256 * (256 * 0 + x0) + x1) + x2) + x3) + x4) + x5) + x6) + x7 := by
    simp only [shN, e0, e1, e2, e3, e4, e5, e6, e7, Int.toNat_natCast]
  rw [E]
  obtain rfl | rfl | rfl | rfl | rfl | rfl | rfl | rfl : k = 0 ∨ k = 1 ∨ k = 2 ∨ k = 3 ∨ k = 4 ∨ k = 5 ∨ k = 6 ∨ k = 7 := by omega
  all_goals (simp only [e0, e1, e2, e3, e4, e5, e6, e7]; simp only [Nat.reduceMul, Nat.reduceSub, Nat.reducePow]; omega)

set_option maxRecDepth 20000 in
set_option maxHeartbeats 4000000 in
theorem tshort_core (w : World) (kp : Option Addr) (kn kc : Nat) (p : Option Addr) (n c : Nat) (hkn : kn ≤ 4096) (hn : n ≤ 4096)
    (D : List Int) (E : Int) (hlD : D.length = 16) (hbD : Byt D)
    (cS : Calls Try.prog 11 #[.slice kp kn kc, .slice p n c] w fun r w' => r = .returned (.tuple #[.int .u64 (shN D 8), .int .i64 E]) ∧ Below w.heap.size w w')
    (cR : ∀ W, Below w.heap.size w W → Calls Try.prog 12 #[.slice kp kn kc, .slice p n c] W fun r w' => r = .returned (.tuple #[.int .u64 (shN D 8), .int .i64 E]) ∧ Below W.heap.size W w')
    (cO : ∀ W, Below w.heap.size w W → Calls Try.prog 8 #[.slice kp kn kc, .slice p n c] W fun r w' => r = .returned (.tuple #[.agg (nums .u8 D), .int .i64 E]) ∧ Below W.heap.size W w') :
    Calls Try.prog 4 #[.slice kp kn kc, .slice p n c] w fun e w' => e = .returned (.bool true) ∧ Below w.heap.size w w' := by
  have hd1 : decide ((4096 : Int) < (kn : Int)) = false := decide_eq_false (by omega)
  have hd2 : decide (4096 < kn) = false := decide_eq_false (by omega)
  have hd3 : decide ((4096 : Int) < (n : Int)) = false := decide_eq_false (by omega)
  have hd4 : decide (4096 < n) = false := decide_eq_false (by omega)
  have hi1 := info_nums .u8 D infoB hlD
  have hzD : (nums .u8 (List.replicate 16 0)).size = (nums .u8 D).size := by rw [nums_size, nums_size, hlD]; rfl
  have HA : Hid (∀ k, k < 8 → ((shN D 8 / 2 ^ (56 - 8 * k) % 256 : Nat) : Int) = D.getD k 0) := shN_at D hbD
  have hN : shN D 8 < 18446744073709551616 := shN_lt hbD 8
  generalize shN D 8 = N at cS cR HA hN
  go_enter Try.func4, Try.ntmps4
  go_wp2_with fail
  refine cS.mono ?_
  rintro e w1 ⟨rfl, hb1⟩
  go_wp2_with fail
  refine (cR _ hb1).mono ?_
  rintro e w2 ⟨rfl, hb2⟩
  have hbb2 := hb1.trans (hb2.mono hb1.size)
  go_wp2_with fail
  refine (cO _ hbb2).mono ?_
  rintro e w3 ⟨rfl, hb3⟩
  have hbb3 := hbb2.trans (hb3.mono hbb2.size)
  clear cS cR cO hb1 hb2 hbb2 hb3
  have hY : ArrI 25 .u8 (w3.alloc (.cells (nums .u8 (List.replicate 16 0)) 25)) w3.heap.size (List.replicate 16 0) := ArrI.new _ .u8 w3 _
  have hbb5 := (hbb3.alloc hbb3.size (.cells (nums .u8 (List.replicate 16 0)) 25)).trans (below_setRow _ w3.heap.size (nums .u8 D) hbb3.size)
  have hY5 := hY.setRow D
  rw [zero16] at hY hY5 hbb5
  go_wp2_with (refine wpList_store_row rfl 25 _ _ rfl w3.heap.size (nums .u8 D) rfl rfl _ _ hY hi1 hzD (nums_one _ _) ?_)
  clear hY
  generalize (w3.alloc _).setRow w3.heap.size (nums .u8 D) = W5 at hY5 hbb5 ⊢
  go_loop [42] (fun i => ∃ k : Nat, k ≤ 8 ∧ i = .int .i64 k) (fun i => 8 - (intOf i).toNat)
  case atStart => exact ⟨0, by omega, rfl⟩
  case round =>
    obtain ⟨k, hk, rfl⟩ := hrel
    by_cases h : k < 8
    · have hc := hY5.cell (i := k) (by omega)
      have h2 := hbD.get k
      have hA := HA.out k h
      have hne : ((N : Int) / 2 ^ (56 - 8 * k) % 256 != D[k]?.getD 0) = false := by
        rw [bne_eq_false_iff_eq, ← List.getD_eq_getElem?_getD, ← hA, Int.natCast_emod, Int.natCast_ediv, Int.natCast_pow]
        rfl
      clear HA hbb5 hY5 hA
      go_wp2_with fail
      exact ⟨⟨k + 1, by omega, by go_num⟩, by simp [intOf]; omega⟩
    · obtain rfl : k = 8 := by omega
      go_wp2_with fail
      refine (awake_any _).mono ?_
      rintro e w7 ⟨rfl, hb7⟩
      have hbb7 := hbb5.trans (hb7.mono hbb5.size)
      go_wp2_with fail
      go_ret
      exact ⟨rfl, hbb7⟩

set_option maxRecDepth 20000 in
theorem tshort_many1 (w : World) (kp : Option Addr) (kn kc : Nat) (p : Option Addr) (n c : Nat) (hn : (4096 : Int) < (kn : Int)) :
    Calls Try.prog 4 #[.slice kp kn kc, .slice p n c] w fun e w' => e = .returned (.bool true) ∧ Below w.heap.size w w' := by
  have cA := awake_any w
  have hd1 : decide ((4096 : Int) < (kn : Int)) = true := decide_eq_true hn
  go_enter Try.func4, Try.ntmps4
  go_wp2_with fail
  refine cA.mono ?_
  rintro e w1 ⟨rfl, hb⟩
  go_wp2_with fail
  go_ret
  exact ⟨rfl, hb⟩

set_option maxRecDepth 20000 in
theorem tshort_many2 (w : World) (kp : Option Addr) (kn kc : Nat) (p : Option Addr) (n c : Nat) (hk : (kn : Int) ≤ 4096) (hn : (4096 : Int) < (n : Int)) :
    Calls Try.prog 4 #[.slice kp kn kc, .slice p n c] w fun e w' => e = .returned (.bool true) ∧ Below w.heap.size w w' := by
  have cA := awake_any w
  have hd1 : decide ((4096 : Int) < (kn : Int)) = false := decide_eq_false (by omega)
  have hd2 : decide ((4096 : Int) < (n : Int)) = true := decide_eq_true hn
  go_enter Try.func4, Try.ntmps4
  go_wp2_with fail
  refine cA.mono ?_
  rintro e w1 ⟨rfl, hb⟩
  go_wp2_with fail
  go_ret
  exact ⟨rfl, hb⟩

theorem walk_TagShort (w : World) (kp : Option Addr) (kn kc : Nat) (kl : List Int) (hk : Rd .u8 w kp kn kc kl) (wk : ∀ x ∈ kl, (Lit.int .u8 x).wf = true) (p : Option Addr) (n c : Nat) (l : List Int) (hr : Rd .u8 w p n c l) (wl : ∀ x ∈ l, (Lit.int .u8 x).wf = true) :
    Calls Try.prog 4 #[.slice kp kn kc, .slice p n c] w fun e w' => e = .returned (.bool true) ∧ Below w.heap.size w w' := by
  by_cases hkn : kn ≤ 4096
  · by_cases hn : n ≤ 4096
    · by_cases h16 : kn = 16
      · subst h16
        exact tshort_core w kp 16 kc p n c hkn hn (digest kl l) 0 (digest_len _ _) (digest_by _ _) (short_any kp kc kl p n c l w hk (by_of_wf wk) hr (by_of_wf wl))
          (fun W hb => refshort_core _ _ W _ _ (digest_len _ _) (digest_by _ _) (refof_any kp kc kl p n c l W (hk.below hb) (by_of_wf wk) (hr.below hb) (by_of_wf wl) (by omega)))
          (fun W hb => of_any kp kc kl p n c l W (hk.below hb) (by_of_wf wk) (hr.below hb) (by_of_wf wl))
      · refine tshort_core w kp kn kc p n c hkn hn (List.replicate 16 0) 1 rfl (byt_zeros 16) ?_ (fun W _ => refshort_core _ _ W _ _ rfl (byt_zeros 16) (refof_bad kp kn kc p n c W h16)) (fun W _ => of_bad kp kn kc p n c W h16)
        rw [shN_zero]
        exact short_bad kp kn kc p n c w h16
    · exact tshort_many2 w kp kn kc p n c (by omega) (by omega)
  · exact tshort_many1 w kp kn kc p n c (by omega)

end Go.Proofs.Ytlmmidlegdmjpaa.M
