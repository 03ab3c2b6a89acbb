/-
  Own text: the walk of the law TagKeys.
-/
import Derived.Test.YtbbcondoenmapafGShort
import Derived.Test.YtbbcondoenmapafOpen
namespace Go.Proofs.Ytbbcondoenmapaf.M
open Go.ChangeShapes Go.WideShapes Go.ChangeAt Go.RowKit

set_option maxRecDepth 20000 in
set_option maxHeartbeats 2000000 in
theorem keys_right (w : World) (kp : Option Addr) (kc : Nat) (kl : List Int) (hk : Rd .u8 w kp 16 kc kl) (hkb : Byt kl) (p : Option Addr) (n c : Nat) (l : List Int) (hr : Rd .u8 w p n c l) (hby : Byt l) (hn : n ≤ 4096) :
    Calls Try.prog 4 #[.slice kp 16 kc, .slice p n c] w fun e w' => e = .returned (.bool true) ∧ Below w.heap.size w w' := by
  have hd1 : decide ((4096 : Int) < (n : Int)) = false := decide_eq_false (by omega)
  have hd2 : decide (4096 < n) = false := decide_eq_false (by omega)
  have cO := of_any kp kc kl p n c l w hk hkb hr hby
  have hlD := digest_len kl l
  have hi1 := info_nums .u8 (digest kl l) infoB hlD
  have cS := fun W (hb : Below w.heap.size w W) => short_any kp kc kl p n c l W (hk.below hb) hkb (hr.below hb) hby
  generalize shN (digest kl l) 8 = N at cS
  generalize digest kl l = D at cO hlD hi1
  clear hk hr
  go_enter Try.func4, Try.ntmps4
  go_wp2_with fail
  refine cO.mono ?_
  rintro e w3 ⟨rfl, hbb4⟩
  clear cO
  have hY : ArrI 22 .u8 (w3.alloc (.cells (nums .u8 (List.replicate 16 0)) 22)) w3.heap.size (List.replicate 16 0) := ArrI.new _ .u8 w3 _
  have hbb5 := (hbb4.alloc hbb4.size (.cells (nums .u8 (List.replicate 16 0)) 22)).trans (below_setRow _ w3.heap.size (nums .u8 D) hbb4.size)
  have hzD : (nums .u8 (List.replicate 16 0)).size = (nums .u8 D).size := by rw [nums_size, nums_size, hlD]; rfl
  rw [zero16] at hY hbb5
  go_wp2_with (refine wpList_store_row rfl 22 _ _ rfl w3.heap.size (nums .u8 D) rfl rfl _ _ hY hi1 hzD (nums_one _ _) ?_)
  generalize (w3.alloc _).setRow w3.heap.size (nums .u8 D) = W5 at hbb5 ⊢
  clear hY hzD
  refine (cS _ hbb5).mono ?_
  rintro e w6 ⟨rfl, hb6⟩
  have hbb6 := hbb5.trans (hb6.mono hbb5.size)
  clear cS hb6
  go_wp2_with fail
  refine (awake_any _).mono ?_
  rintro e w7 ⟨rfl, hb7⟩
  have hbb7 := hbb6.trans (hb7.mono hbb6.size)
  go_wp2_with fail
  go_ret
  exact ⟨rfl, hbb7⟩

set_option maxRecDepth 20000 in
set_option maxHeartbeats 2000000 in
theorem keys_wrong (w : World) (kp : Option Addr) (kn kc : Nat) (p : Option Addr) (n c : Nat) (hn : n ≤ 4096) (hk : kn ≠ 16) :
    Calls Try.prog 4 #[.slice kp kn kc, .slice p n c] w fun e w' => e = .returned (.bool true) ∧ Below w.heap.size w w' := by
  have hd1 : decide ((4096 : Int) < (n : Int)) = false := decide_eq_false (by omega)
  have hd2 : decide (4096 < n) = false := decide_eq_false (by omega)
  have cO := of_bad kp kn kc p n c w hk
  have cS := fun W => short_bad kp kn kc p n c W hk
  have hd3 : ((kn : Int) == 16) = false := by rw [beq_eq_false_iff_ne]; omega
  have hd4 : (kn == 16) = false := by rw [beq_eq_false_iff_ne]; exact hk
  obtain ⟨Z, hZ⟩ : ∃ Z : List Int, Z = List.replicate 16 0 := ⟨_, rfl⟩
  rw [← hZ] at cO
  have hlZ : Z.length = 16 := by rw [hZ]; rfl
  have hi1 := info_nums .u8 Z infoB hlZ
  have HnZ : Hid (nums .u8 Z = #[.int .u8 0, .int .u8 0, .int .u8 0, .int .u8 0, .int .u8 0, .int .u8 0, .int .u8 0, .int .u8 0, .int .u8 0, .int .u8 0, .int .u8 0, .int .u8 0, .int .u8 0, .int .u8 0, .int .u8 0, .int .u8 0]) := by unfold Hid; rw [hZ]; rfl
  have q1 := fun W => eql16 Z Z hlZ hlZ W
  rw [decide_eq_true rfl] at q1
  clear hZ
  go_enter Try.func4, Try.ntmps4
  go_wp2_with fail
  refine cO.mono ?_
  rintro e w3 ⟨rfl, hbb4⟩
  clear cO
  have hY : ArrI 22 .u8 (w3.alloc (.cells (nums .u8 Z) 22)) w3.heap.size Z := ArrI.new _ .u8 w3 _
  have hbb5 := (hbb4.alloc hbb4.size (.cells (nums .u8 Z) 22)).trans (below_setRow _ w3.heap.size (nums .u8 Z) hbb4.size)
  have hY5 := hY.setRow Z
  generalize hl : Obj.cells (nums .u8 Z) 22 = ob at hY hY5 hbb5
  rw [HnZ.out] at hl
  subst hl
  go_wp2_with (refine wpList_store_row rfl 22 _ _ rfl w3.heap.size (nums .u8 Z) rfl rfl _ _ hY hi1 rfl (nums_one _ _) ?_)
  generalize (w3.alloc _).setRow w3.heap.size (nums .u8 Z) = W5 at hY5 hbb5 ⊢
  clear hY
  refine (cS _).mono ?_
  rintro e w6 ⟨rfl, hb6⟩
  have hbb6 := hbb5.trans (hb6.mono hbb5.size)
  have hY6 := hY5.below hb6
  clear cS hb6 hY5
  have q2 := q1
  rw [HnZ.out] at q2
  have hrow : w6.heap[w3.heap.size]? = some (.cells #[.int .u8 0, .int .u8 0, .int .u8 0, .int .u8 0, .int .u8 0, .int .u8 0, .int .u8 0, .int .u8 0, .int .u8 0, .int .u8 0, .int .u8 0, .int .u8 0, .int .u8 0, .int .u8 0, .int .u8 0, .int .u8 0] 22 (0, 0)) := by
    rw [← HnZ.out]
    exact hY6
  have x0 : w6.cell? ⟨w3.heap.size, 0, none⟩ = some (.int .u8 0) := (cell_of_row w6 w3.heap.size 0 _ _ _ hrow).trans rfl
  have x1 : w6.cell? ⟨w3.heap.size, 1, none⟩ = some (.int .u8 0) := (cell_of_row w6 w3.heap.size 1 _ _ _ hrow).trans rfl
  have x2 : w6.cell? ⟨w3.heap.size, 2, none⟩ = some (.int .u8 0) := (cell_of_row w6 w3.heap.size 2 _ _ _ hrow).trans rfl
  have x3 : w6.cell? ⟨w3.heap.size, 3, none⟩ = some (.int .u8 0) := (cell_of_row w6 w3.heap.size 3 _ _ _ hrow).trans rfl
  have x4 : w6.cell? ⟨w3.heap.size, 4, none⟩ = some (.int .u8 0) := (cell_of_row w6 w3.heap.size 4 _ _ _ hrow).trans rfl
  have x5 : w6.cell? ⟨w3.heap.size, 5, none⟩ = some (.int .u8 0) := (cell_of_row w6 w3.heap.size 5 _ _ _ hrow).trans rfl
  have x6 : w6.cell? ⟨w3.heap.size, 6, none⟩ = some (.int .u8 0) := (cell_of_row w6 w3.heap.size 6 _ _ _ hrow).trans rfl
  have x7 : w6.cell? ⟨w3.heap.size, 7, none⟩ = some (.int .u8 0) := (cell_of_row w6 w3.heap.size 7 _ _ _ hrow).trans rfl
  have x8 : w6.cell? ⟨w3.heap.size, 8, none⟩ = some (.int .u8 0) := (cell_of_row w6 w3.heap.size 8 _ _ _ hrow).trans rfl
  have x9 : w6.cell? ⟨w3.heap.size, 9, none⟩ = some (.int .u8 0) := (cell_of_row w6 w3.heap.size 9 _ _ _ hrow).trans rfl
  have x10 : w6.cell? ⟨w3.heap.size, 10, none⟩ = some (.int .u8 0) := (cell_of_row w6 w3.heap.size 10 _ _ _ hrow).trans rfl
  have x11 : w6.cell? ⟨w3.heap.size, 11, none⟩ = some (.int .u8 0) := (cell_of_row w6 w3.heap.size 11 _ _ _ hrow).trans rfl
  have x12 : w6.cell? ⟨w3.heap.size, 12, none⟩ = some (.int .u8 0) := (cell_of_row w6 w3.heap.size 12 _ _ _ hrow).trans rfl
  have x13 : w6.cell? ⟨w3.heap.size, 13, none⟩ = some (.int .u8 0) := (cell_of_row w6 w3.heap.size 13 _ _ _ hrow).trans rfl
  have x14 : w6.cell? ⟨w3.heap.size, 14, none⟩ = some (.int .u8 0) := (cell_of_row w6 w3.heap.size 14 _ _ _ hrow).trans rfl
  have x15 : w6.cell? ⟨w3.heap.size, 15, none⟩ = some (.int .u8 0) := (cell_of_row w6 w3.heap.size 15 _ _ _ hrow).trans rfl
  clear hrow hY6 q1
  go_wp2_with fail
  refine (awake_any _).mono ?_
  rintro e w7 ⟨rfl, hb7⟩
  have hbb7 := hbb6.trans (hb7.mono hbb6.size)
  go_wp2_with fail
  go_ret
  exact ⟨rfl, hbb7⟩

set_option maxRecDepth 20000 in
theorem keys_many (w : World) (kp : Option Addr) (kn kc : Nat) (p : Option Addr) (n c : Nat) (hn : (4096 : Int) < (n : Int)) :
    Calls Try.prog 4 #[.slice kp kn kc, .slice p n c] w fun e w' => e = .returned (.bool true) ∧ Below w.heap.size w w' := by
  have cA := awake_any w
  go_enter Try.func4, Try.ntmps4
  go_wp2_with fail
  refine cA.mono ?_
  rintro e w1 ⟨rfl, hb⟩
  go_wp2_with fail
  go_ret
  exact ⟨rfl, hb⟩

theorem walk_TagKeys (w : World) (kp : Option Addr) (kn kc : Nat) (kl : List Int) (hk : Rd .u8 w kp kn kc kl) (wk : ∀ x ∈ kl, (Lit.int .u8 x).wf = true) (p : Option Addr) (n c : Nat) (l : List Int) (hr : Rd .u8 w p n c l) (wl : ∀ x ∈ l, (Lit.int .u8 x).wf = true) :
    Calls Try.prog 4 #[.slice kp kn kc, .slice p n c] w fun e w' => e = .returned (.bool true) ∧ Below w.heap.size w w' := by
  by_cases hn : n ≤ 4096
  · by_cases h16 : kn = 16
    · subst h16
      exact keys_right w kp kc kl hk (by_of_wf wk) p n c l hr (by_of_wf wl) hn
    · exact keys_wrong w kp kn kc p n c hn h16
  · exact keys_many w kp kn kc p n c (by omega)

end Go.Proofs.Ytbbcondoenmapaf.M
