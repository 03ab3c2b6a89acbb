/-
  Own text: contracts of the reference's Place, Off, End and Set.
-/
import Derived.Test.YtigojnpjpagfjaaDoorYAwake
namespace Go.Proofs.YtigojnpjpagfjaaDoor.M
open Go.ChangeShapes Go.WideShapes Go.ChangeAt Go.RowKit

set_option maxRecDepth 20000 in
set_option maxHeartbeats 1000000 in
theorem rPlace_any (e : Int) (p : Option Addr) (n c : Nat) (ms : List Mb) (node : Int) (w : World) (hr : RdM w p n c ms) (hn : n ≤ 5864062014805) :
    Calls Tryd.prog 60 #[.agg #[.int .i64 e, .slice p n c], .int .i64 node] w fun r w' => r = .returned (.int .i64 (plc e ms node)) ∧ Below w.heap.size w w' := by
  have hb0 : Below w.heap.size w (w.alloc (.cells #[.int .i64 e, .slice p n c] 28)) := (Below.refl _ _).alloc (Nat.le_refl _) _
  have hl := hr.len
  have hr0 := hr.below hb0
  have hC := rCheck_any e p n c ms _ hr0 hn
  have hv : (w.alloc (.cells #[.int .i64 e, .slice p n c] 28)).cell? ⟨w.heap.size, 1, none⟩ = some (.slice p n c) := by simp
  unfold chkV at hC
  go_enter Tryd.func60, Tryd.ntmps60
  go_wp2_with fail
  generalize (w.alloc (.cells #[.int .i64 e, .slice p n c] 28)) = w0 at *
  refine hC.mono ?_
  rintro r w1 ⟨rfl, hb1⟩
  have hB1 := hb0.trans (hb1.mono hb0.size)
  replace hv := (hb1.cell (p := ⟨w.heap.size, 1, none⟩) (World.block_lt_of_cell? _ _ hv)).trans hv
  have hr1 := hr0.below hb1
  clear hC hr hr0 hb0 hb1
  cases hk : chk e ms with
  | false =>
    have HN : Hid (plc e ms node = -1) := by unfold Hid plc; rw [hk]; rfl
    clear hk
    simp only [Bool.false_eq_true, if_false]
    go_wp2_with fail
    go_ret
    exact ⟨ret_int HN.out.symm, hB1⟩
  | true =>
    have HN : Hid (plc e ms node = ixM (fun m => m.n == node) 0 ms) := by unfold Hid plc; rw [hk]; rfl
    clear hk
    simp only [if_true]
    go_wp2_with fail
    go_loopw [13] (fun i wr => ∃ k : Nat, k ≤ n ∧ i = .int .i64 k ∧ Hid (plc e ms node = ixM (fun m => m.n == node) k (ms.drop k)) ∧ Below w1.heap.size w1 wr) (fun i _ => n - (intOf i).toNat)
    case atStart => exact ⟨0, Nat.zero_le _, rfl, HN, Below.refl _ _⟩
    case round =>
      clear HN
      obtain ⟨k, hk, rfl, HN, hb⟩ := hrel
      have hbb := hB1.trans (hb.mono hB1.size)
      by_cases h : k < n
      · obtain ⟨g1, o1, rfl, c1⟩ := (hr1.below hb).cells (by omega)
        obtain ⟨x1, x2, x3⟩ := c1 k h
        have hk1 : (k : Int) < (n : Int) := by omega
        have hd := drop_mb (fs := ms) (k := k) (by omega)
        have hN2 := HN.out
        rw [hd] at hN2
        clear c1 HN hd
        generalize ms.getD k .z0 = f at *
        obtain ⟨fn, fs, ff⟩ := f
        dsimp only at x1 x2 x3
        have HN3 : Hid (plc e ms node = if (fn == node) = true then (k : Int) else ixM (fun m => m.n == node) (k + 1) (ms.drop (k + 1))) := hN2
        clear hN2
        have hba := hb.alloc hb.size (.cells #[.int .i64 fn, .int .i64 fs, .bool ff] 45)
        have hbba := hbb.alloc hbb.size (.cells #[.int .i64 fn, .int .i64 fs, .bool ff] 45)
        cases hq : (fn == node) with
        | true =>
          have HN4 : Hid (plc e ms node = (k : Int)) := by unfold Hid; rw [HN3.out, hq]; rfl
          clear HN3
          go_wp2_with fail
          go_ret
          exact ⟨ret_int HN4.out.symm, hbba⟩
        | false =>
          have HN4 : Hid (plc e ms node = ixM (fun m => m.n == node) (k + 1) (ms.drop (k + 1))) := by unfold Hid; rw [HN3.out, hq]; rfl
          clear HN3
          go_wp2_with fail
          go_roundw
          case rel => exact ⟨k + 1, by omega, by go_num, HN4, hba⟩
          case measure => simp [intOf]; omega
      · obtain rfl : k = n := by omega
        have HN4 : Hid (plc e ms node = -1) := by
          unfold Hid; rw [HN.out, List.drop_of_length_le (by omega)]; rfl
        clear HN hr1
        go_wp2_with fail
        go_ret
        exact ⟨ret_int HN4.out.symm, hbb⟩

end Go.Proofs.YtigojnpjpagfjaaDoor.M
