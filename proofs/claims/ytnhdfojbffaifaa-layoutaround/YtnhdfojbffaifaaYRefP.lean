/-
  Own text: contracts of the reference's Place, Off, End and Set.
-/
import Derived.Test.YtnhdfojbffaifaaYAwake
namespace Go.Proofs.Ytnhdfojbffaifaa.M
open Go.ChangeShapes Go.WideShapes Go.ChangeAt Go.RowKit

set_option maxRecDepth 20000 in
set_option maxHeartbeats 1000000 in
theorem rPlace_any (e : Int) (p : Option Addr) (n c : Nat) (ms : List Mb) (node : Int) (w : World) (hr : RdM w p n c ms) (hn : n ≤ 5864062014805) :
    Calls Try.prog 15 #[.agg #[.int .i64 e, .slice p n c], .int .i64 node] w fun r w' => r = .returned (.int .i64 (plc e ms node)) ∧ Below w.heap.size w w' := by
  have hb0 : Below w.heap.size w (w.alloc (.cells #[.int .i64 e, .slice p n c] 24)) := (Below.refl _ _).alloc (Nat.le_refl _) _
  have hl := hr.len
  have hr0 := hr.below hb0
  have hC := rCheck_any e p n c ms _ hr0 hn
  have hv : (w.alloc (.cells #[.int .i64 e, .slice p n c] 24)).cell? ⟨w.heap.size, 1, none⟩ = some (.slice p n c) := by simp
  unfold chkV at hC
  go_enter Try.func15, Try.ntmps15
  go_wp2_with fail
  generalize (w.alloc (.cells #[.int .i64 e, .slice p n c] 24)) = w0 at *
  refine hC.mono ?_
  rintro r w1 ⟨rfl, hb1⟩
  have hB1 := hb0.trans (hb1.mono hb0.size)
  replace hv := (hb1.cell (p := ⟨w.heap.size, 1, none⟩) (World.block_lt_of_cell? _ _ hv)).trans hv
  have hr1 := hr0.below hb1
  clear hC hr hr0 hb0 hb1
  cases hk : chk e ms with
  | false =>
    have HN : Hid (plc e ms node = -1) := by unfold Hid plc; rw [hk]; rfl
    clear hk
    simp only [Bool.false_eq_true, if_false]
    go_wp2_with fail
    go_ret
    exact ⟨ret_int HN.out.symm, hB1⟩
  | true =>
    have HN : Hid (plc e ms node = ixM (fun m => m.n == node) 0 ms) := by unfold Hid plc; rw [hk]; rfl
    clear hk
    simp only [if_true]
    go_wp2_with fail
    go_loopw [13] (fun i wr => ∃ k : Nat, k ≤ n ∧ i = .int .i64 k ∧ Hid (plc e ms node = ixM (fun m => m.n == node) k (ms.drop k)) ∧ Below w1.heap.size w1 wr) (fun i _ => n - (intOf i).toNat)
    case atStart => exact ⟨0, Nat.zero_le _, rfl, HN, Below.refl _ _⟩
    case round =>
      clear HN
      obtain ⟨k, hk, rfl, HN, hb⟩ := hrel
      have hbb := hB1.trans (hb.mono hB1.size)
      by_cases h : k < n
      · obtain ⟨g1, o1, rfl, c1⟩ := (hr1.below hb).cells (by omega)
        obtain ⟨x1, x2, x3⟩ := c1 k h
        have hk1 : (k : Int) < (n : Int) := by omega
        have hd := drop_mb (fs := ms) (k := k) (by omega)
        have hN2 := HN.out
        rw [hd] at hN2
        clear c1 HN hd
        generalize ms.getD k .z0 = f at *
        obtain ⟨fn, fs, ff⟩ := f
        dsimp only at x1 x2 x3
        have HN3 : Hid (plc e ms node = if (fn == node) = true then (k : Int) else ixM (fun m => m.n == node) (k + 1) (ms.drop (k + 1))) := hN2
        clear hN2
        have hba := hb.alloc hb.size (.cells #[.int .i64 fn, .int .i64 fs, .bool ff] 42)
        have hbba := hbb.alloc hbb.size (.cells #[.int .i64 fn, .int .i64 fs, .bool ff] 42)
        cases hq : (fn == node) with
        | true =>
          have HN4 : Hid (plc e ms node = (k : Int)) := by unfold Hid; rw [HN3.out, hq]; rfl
          clear HN3
          go_wp2_with fail
          go_ret
          exact ⟨ret_int HN4.out.symm, hbba⟩
        | false =>
          have HN4 : Hid (plc e ms node = ixM (fun m => m.n == node) (k + 1) (ms.drop (k + 1))) := by unfold Hid; rw [HN3.out, hq]; rfl
          clear HN3
          go_wp2_with fail
          go_roundw
          case rel => exact ⟨k + 1, by omega, by go_num, HN4, hba⟩
          case measure => simp [intOf]; omega
      · obtain rfl : k = n := by omega
        have HN4 : Hid (plc e ms node = -1) := by
          unfold Hid; rw [HN.out, List.drop_of_length_le (by omega)]; rfl
        clear HN hr1
        go_wp2_with fail
        go_ret
        exact ⟨ret_int HN4.out.symm, hbb⟩

set_option maxRecDepth 20000 in
set_option maxHeartbeats 1000000 in
theorem rOff_any (e : Int) (p : Option Addr) (n c : Nat) (ms : List Mb) (node by_ : Int) (w : World) (hr : RdM w p n c ms) (hn : n ≤ 5864062014805) (hby : -1 ≤ by_ ∧ by_ ≤ 1) :
    Calls Try.prog 17 #[.agg #[.int .i64 e, .slice p n c], .int .i64 node, .int .i64 by_] w fun r w' => r = .returned (.int .i64 (offM e ms node by_)) ∧ Below w.heap.size w w' := by
  have hb0 : Below w.heap.size w (w.alloc (.cells #[.int .i64 e, .slice p n c] 24)) := (Below.refl _ _).alloc (Nat.le_refl _) _
  have hP := rPlace_any e p n c ms node _ (hr.below hb0) hn
  have hv1 : (w.alloc (.cells #[.int .i64 e, .slice p n c] 24)).cell? ⟨w.heap.size, 1, none⟩ = some (.slice p n c) := by simp
  have hl := hr.len
  have hr1 := hr.below hb0
  have hbd := plc_bounds e ms node
  have HN : Hid (offM e ms node by_ = if plc e ms node = -1 then -1 else atM ms (plc e ms node + by_)) := rfl
  generalize plc e ms node = z at *
  clear hr
  go_enter Try.func17, Try.ntmps17
  go_wp2_with fail
  refine hP.mono ?_
  rintro r w1 ⟨rfl, hb1⟩
  replace hv1 := (hb1.cell (p := ⟨w.heap.size, 1, none⟩) (World.block_lt_of_cell? _ _ hv1)).trans hv1
  have hr2 := hr1.below hb1
  have hbb := hb0.trans (hb1.mono hb0.size)
  clear hP hr1 hb0 hb1
  by_cases hz : z = -1
  · subst hz
    have HN2 : Hid (offM e ms node by_ = -1) := HN.out
    clear HN
    go_wp2_with fail
    go_ret
    exact ⟨ret_int HN2.out.symm, hbb⟩
  · have hz0 : 0 ≤ z := by omega
    have hzd : decide (z < 0) = false := decide_eq_false (by omega)
    have hzl : z < (n : Int) := by omega
    by_cases h1 : z + by_ < 0
    · have HN2 : Hid (offM e ms node by_ = -1) := by unfold Hid; rw [HN.out, if_neg hz]; unfold atM; rw [if_neg (by omega)]
      clear HN hbd
      go_wp2_with fail
      go_ret
      exact ⟨ret_int HN2.out.symm, hbb⟩
    · have h1d : decide (z + by_ < 0) = false := decide_eq_false h1
      by_cases h2 : (n : Int) ≤ z + by_
      · have HN2 : Hid (offM e ms node by_ = -1) := by unfold Hid; rw [HN.out, if_neg hz]; unfold atM; rw [if_neg (by omega)]
        clear HN hbd
        go_wp2_with fail
        go_ret
        exact ⟨ret_int HN2.out.symm, hbb⟩
      · have h2d : decide ((n : Int) ≤ z + by_) = false := decide_eq_false h2
        obtain ⟨j, hj⟩ := Int.eq_ofNat_of_zero_le (show 0 ≤ z + by_ by omega)
        have HN2 : Hid (offM e ms node by_ = (ms.getD j .z0).n) := by
          unfold Hid; rw [HN.out, if_neg hz, hj]; unfold atM; rw [if_pos (by omega), Int.toNat_natCast]
        obtain ⟨b, o, rfl, hc⟩ := hr2.cells (by omega)
        have hcj := (hc j (by omega)).1
        generalize (ms.getD j .z0).n = y at hcj HN2
        have hjn : (j : Int) < (n : Int) := by omega
        have hw : IntKind.i64.wrap (z + by_) = (j : Int) := by rw [IntKind.wrap_i64]; omega
        have hj0 : decide ((j : Int) < 0) = false := decide_eq_false (by omega)
        have hjn2 : decide ((n : Int) ≤ (j : Int)) = false := decide_eq_false (by omega)
        clear HN hbd hc hr2 h1d h2d
        go_wp2_with fail
        go_ret
        exact ⟨ret_int HN2.out.symm, hbb⟩

set_option maxRecDepth 20000 in
theorem rEnd0_any (e : Int) (p : Option Addr) (n c : Nat) (ms : List Mb) (w : World) (hr : RdM w p n c ms) (hn : n ≤ 5864062014805) :
    Calls Try.prog 20 #[.agg #[.int .i64 e, .slice p n c], .int .i64 0] w fun r w' => r = .returned (.int .i64 (endM e ms 0)) ∧ Below w.heap.size w w' := by
  have hb0 : Below w.heap.size w (w.alloc (.cells #[.int .i64 e, .slice p n c] 24)) := (Below.refl _ _).alloc (Nat.le_refl _) _
  have hP := rCheck_any e p n c ms _ (hr.below hb0) hn
  unfold chkV at hP
  have hv1 : (w.alloc (.cells #[.int .i64 e, .slice p n c] 24)).cell? ⟨w.heap.size, 1, none⟩ = some (.slice p n c) := by simp
  have hl := hr.len
  have hr1 := hr.below hb0
  clear hr
  go_enter Try.func20, Try.ntmps20
  go_wp2_with fail
  refine hP.mono ?_
  rintro r w1 ⟨rfl, hb1⟩
  replace hv1 := (hb1.cell (p := ⟨w.heap.size, 1, none⟩) (World.block_lt_of_cell? _ _ hv1)).trans hv1
  have hr2 := hr1.below hb1
  have hbb := hb0.trans (hb1.mono hb0.size)
  clear hP hr1 hb0 hb1
  cases hk : chk e ms with
  | false =>
    have HN2 : Hid (endM e ms 0 = -1) := by unfold Hid endM; rw [hk]; rfl
    clear hk
    simp only [Bool.false_eq_true, if_false]
    go_wp2_with fail
    go_ret
    exact ⟨ret_int HN2.out.symm, hbb⟩
  | true =>
    obtain ⟨_, _, hn0, hn6⟩ := chk_parts hk
    have HN2 : Hid (endM e ms 0 = (ms.getD 0 .z0).n) := by unfold Hid endM; rw [hk, if_pos rfl]; unfold atM; rw [if_pos (by omega)]; rfl
    obtain ⟨b, o, rfl, hc⟩ := hr2.cells (by omega)
    have hcj := (hc 0 (by omega)).1
    rw [Nat.zero_mul, Nat.add_zero] at hcj
    generalize (ms.getD 0 .z0).n = y at hcj HN2
    have hjn : (0 : Int) < (n : Int) := by omega
    clear hk hc hr2
    simp only [if_true]
    go_wp2_with fail
    go_ret
    exact ⟨ret_int HN2.out.symm, hbb⟩

set_option maxRecDepth 20000 in
theorem rEnd1_any (e : Int) (p : Option Addr) (n c : Nat) (ms : List Mb) (w : World) (hr : RdM w p n c ms) (hn : n ≤ 5864062014805) :
    Calls Try.prog 20 #[.agg #[.int .i64 e, .slice p n c], .int .i64 1] w fun r w' => r = .returned (.int .i64 (endM e ms ((n : Int) - 1))) ∧ Below w.heap.size w w' := by
  have hb0 : Below w.heap.size w (w.alloc (.cells #[.int .i64 e, .slice p n c] 24)) := (Below.refl _ _).alloc (Nat.le_refl _) _
  have hP := rCheck_any e p n c ms _ (hr.below hb0) hn
  unfold chkV at hP
  have hv1 : (w.alloc (.cells #[.int .i64 e, .slice p n c] 24)).cell? ⟨w.heap.size, 1, none⟩ = some (.slice p n c) := by simp
  have hl := hr.len
  have hr1 := hr.below hb0
  clear hr
  go_enter Try.func20, Try.ntmps20
  go_wp2_with fail
  refine hP.mono ?_
  rintro r w1 ⟨rfl, hb1⟩
  replace hv1 := (hb1.cell (p := ⟨w.heap.size, 1, none⟩) (World.block_lt_of_cell? _ _ hv1)).trans hv1
  have hr2 := hr1.below hb1
  have hbb := hb0.trans (hb1.mono hb0.size)
  clear hP hr1 hb0 hb1
  cases hk : chk e ms with
  | false =>
    have HN2 : Hid (endM e ms ((n : Int) - 1) = -1) := by unfold Hid endM; rw [hk]; rfl
    clear hk
    simp only [Bool.false_eq_true, if_false]
    go_wp2_with fail
    go_ret
    exact ⟨ret_int HN2.out.symm, hbb⟩
  | true =>
    obtain ⟨_, _, hn0, hn6⟩ := chk_parts hk
    obtain ⟨j, rfl⟩ : ∃ j, n = j + 1 := ⟨n - 1, by omega⟩
    have HN2 : Hid (endM e ms (((j + 1 : Nat) : Int) - 1) = (ms.getD j .z0).n) := by unfold Hid endM; rw [hk, if_pos rfl]; unfold atM; rw [if_pos (by omega)]; congr 2; omega
    obtain ⟨b, o, rfl, hc⟩ := hr2.cells (by omega)
    have hcj := (hc j (by omega)).1
    generalize (ms.getD j .z0).n = y at hcj HN2
    have hjn : (j : Int) < (j : Int) + 1 := by omega
    clear hk hc hr2
    simp only [if_true]
    go_wp2_with fail
    go_ret
    exact ⟨ret_int HN2.out.symm, hbb⟩

end Go.Proofs.Ytnhdfojbffaifaa.M
