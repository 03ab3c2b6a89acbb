/-
  Own text: the document's Check, Many and Spare of plans.
-/
import Derived.Test.YtigojnpjpagfjaaDoorVAwake
import Derived.Test.YtigojnpjpagfjaaDoorYRefS
namespace Go.Proofs.YtigojnpjpagfjaaDoor.M
open Go.ChangeShapes Go.WideShapes Go.ChangeAt Go.RowKit

set_option maxRecDepth 20000 in
set_option maxHeartbeats 1000000 in
theorem rpCheck_any (h0 h1 h2 h3 h4 h5 v0 v1 v2 : Int) (w : World) :
    Calls Tryd.prog 13 #[.agg #[.int .i64 h0, .int .i64 h1, .int .i64 h2, .int .i64 h3, .int .i64 h4, .int .i64 h5], .agg #[.int .i64 v0, .int .i64 v1, .int .i64 v2]] w fun r w' => r = .returned (planV (planC [h0, h1, h2, h3, h4, h5] [v0, v1, v2])) ∧ Below w.heap.size w w' := by
  have hb0 : Below w.heap.size w ((w.alloc (.cells #[.int .i64 h0, .int .i64 h1, .int .i64 h2, .int .i64 h3, .int .i64 h4, .int .i64 h5] 23)).alloc (.cells #[.int .i64 v0, .int .i64 v1, .int .i64 v2] 25)) := ((Below.refl _ _).alloc (Nat.le_refl _) _).alloc (by simp) _
  have hiH := fun k hk W => idxH h0 h1 h2 h3 h4 h5 k hk W
  have hiW := fun k hk W => idxW v0 v1 v2 k hk W
  generalize hR : planC [h0, h1, h2, h3, h4, h5] [v0, v1, v2] = R
  have HR : Hid (([h0, h1, h2, h3, h4, h5].all isSite && [v0, v1, v2].all isWish) = R) := hR
  clear hR
  obtain ⟨hs, HS⟩ : ∃ l : List Int, Hid (l = [h0, h1, h2, h3, h4, h5]) := ⟨_, rfl⟩
  obtain ⟨vs, VS⟩ : ∃ l : List Int, Hid (l = [v0, v1, v2]) := ⟨_, rfl⟩
  have hl6 : Hid (hs.length = 6) := by unfold Hid; rw [HS.out]; rfl
  have hl3 : Hid (vs.length = 3) := by unfold Hid; rw [VS.out]; rfl
  rw [← HS.out] at hiH HR
  rw [← VS.out] at hiW HR
  clear HS VS
  go_enter Tryd.func13, Tryd.ntmps13
  go_wp2_with fail
  go_loopw [10] (fun i wr => ∃ k : Nat, k ≤ 6 ∧ i = .int .i64 k ∧ Hid (((hs.drop k).all isSite && vs.all isWish) = R) ∧ WIs wr ((w.alloc (.cells #[.int .i64 h0, .int .i64 h1, .int .i64 h2, .int .i64 h3, .int .i64 h4, .int .i64 h5] 23)).alloc (.cells #[.int .i64 v0, .int .i64 v1, .int .i64 v2] 25))) (fun i _ => 6 - (intOf i).toNat)
  case atStart => exact ⟨0, by omega, rfl, HR, rfl⟩
  case round =>
    clear HR
    obtain ⟨k, hk, rfl, HR, HW⟩ := hrel
    have hwr : wr = _ := HW
    subst hwr
    clear HW
    by_cases h : k < 6
    · have h1 := hiH k h
      have hd := drop_i (l := hs) (k := k) (by rw [hl6.out]; exact h)
      have hR := HR.out
      rw [hd, List.all_cons] at hR
      clear HR hd hiH
      generalize hs.getD k 0 = x at *
      by_cases hx : 0 ≤ x ∧ x < 3
      · have HR : Hid (((hs.drop (k + 1)).all isSite && vs.all isWish) = R) := by unfold Hid; rw [← hR]; unfold isSite; simp [hx]
        obtain ⟨x0, x1⟩ := hx
        have x2 : ¬ 2 < x := by omega
        clear hR
        go_wp2_with fail
        go_roundw
        case rel => exact ⟨k + 1, by omega, by go_num, HR, rfl⟩
        case measure => simp [intOf]; omega
      · have HR : Hid (false = R) := by
          unfold Hid; rw [← hR]; unfold isSite
          have : (decide (0 ≤ x) && decide (x < 3)) = false := by simp; omega
          rw [this]; rfl
        clear hR
        rcases (show x < 0 ∨ 2 < x by omega) with hx2 | hx2
        · go_wp2_with fail
          go_ret
          exact ⟨ret_plan HR.out, hb0⟩
        · have hx3 : ¬ x < 0 := by omega
          go_wp2_with fail
          go_ret
          exact ⟨ret_plan HR.out, hb0⟩
    · have HR2 : Hid (vs.all isWish = R) := by unfold Hid; rw [← HR.out, List.drop_of_length_le (by rw [hl6.out]; omega)]; rfl
      clear HR hiH
      go_wp2_with fail
      go_loopw [21] (fun i wr => ∃ k : Nat, k ≤ 3 ∧ i = .int .i64 k ∧ Hid ((vs.drop k).all isWish = R) ∧ WIs wr ((w.alloc (.cells #[.int .i64 h0, .int .i64 h1, .int .i64 h2, .int .i64 h3, .int .i64 h4, .int .i64 h5] 23)).alloc (.cells #[.int .i64 v0, .int .i64 v1, .int .i64 v2] 25))) (fun i _ => 3 - (intOf i).toNat)
      case atStart => exact ⟨0, by omega, rfl, HR2, rfl⟩
      case round =>
        clear HR2
        obtain ⟨k, hk, rfl, HR, HW⟩ := hrel
        have hwr : wr = _ := HW
        subst hwr
        clear HW
        by_cases h : k < 3
        · have h1 := hiW k h
          have hd := drop_i (l := vs) (k := k) (by rw [hl3.out]; exact h)
          have hR := HR.out
          rw [hd, List.all_cons] at hR
          clear HR hd hiW
          generalize vs.getD k 0 = x at *
          by_cases hx : 0 ≤ x ∧ x ≤ 6
          · have HR : Hid ((vs.drop (k + 1)).all isWish = R) := by unfold Hid; rw [← hR]; unfold isWish; simp [hx]
            obtain ⟨x0, x1⟩ := hx
            clear hR
            go_wp2_with fail
            go_roundw
            case rel => exact ⟨k + 1, by omega, by go_num, HR, rfl⟩
            case measure => simp [intOf]; omega
          · have HR : Hid (false = R) := by
              unfold Hid; rw [← hR]; unfold isWish
              have : (decide (0 ≤ x) && decide (x ≤ 6)) = false := by simp; omega
              rw [this]; rfl
            clear hR
            rcases (show x < 0 ∨ 6 < x by omega) with hx2 | hx2
            · go_wp2_with fail
              go_ret
              exact ⟨ret_plan HR.out, hb0⟩
            · have hx3 : ¬ x < 0 := by omega
              go_wp2_with fail
              go_ret
              exact ⟨ret_plan HR.out, hb0⟩
        · obtain rfl : k = 3 := by omega
          have HR2 : Hid (true = R) := by unfold Hid; rw [← HR.out, List.drop_of_length_le (by rw [hl3.out]; decide)]; rfl
          clear HR hiW h
          go_wp2_with fail
          go_ret
          exact ⟨ret_plan HR2.out, hb0⟩

set_option maxRecDepth 20000 in
set_option maxHeartbeats 1000000 in
theorem many_any (e : Int) (p : Option Addr) (n c : Nat) (ms : List Mb) (s : Int) (w : World) (hr : RdM w p n c ms) (hn : n ≤ 5864062014805) :
    Calls Tryd.prog 11 #[.agg #[.int .i64 e, .slice p n c], .int .i64 s] w fun r w' => r = .returned (.int .i64 ((manyN ms s : Nat) : Int)) ∧ Below w.heap.size w w' := by
  have hb0 := below_alloc w (.cells #[.int .i64 e, .slice p n c] 28)
  have HL : Hid (ms.length = n) := hr.len
  obtain ⟨R, HR⟩ : ∃ x, Hid (manyN ms s = x) := ⟨_, rfl⟩
  rw [HR.out]
  go_enter Tryd.func11, Tryd.ntmps11
  go_wp2_with fail
  go_loopw [5, 11] (fun x i wr => ∃ (k X : Nat), k ≤ n ∧ i = .int .i64 k ∧ x = .int .i64 X ∧ X ≤ k ∧ Hid (X = manyN (ms.take k) s) ∧ Below w.heap.size w wr) (fun _ i _ => n - (intOf i).toNat)
  case atStart => exact ⟨0, 0, Nat.zero_le _, rfl, rfl, Nat.le_refl _, rfl, hb0⟩
  case round =>
    clear hb0
    obtain ⟨k, X, hk, rfl, rfl, hX, HX, hb⟩ := hrel
    by_cases h : k < n
    · obtain ⟨bb, o, rfl, hc⟩ := (hr.below hb).cells (by omega)
      obtain ⟨g1, g2, g3⟩ := hc k h
      have s0 := manyN_snoc (ms := ms) (k := k) (by rw [HL.out]; exact h) s
      rw [← HX.out] at s0
      clear hc hr HX
      generalize ms.getD k .z0 = m at *
      obtain ⟨mn, msi, mf⟩ := m
      dsimp only at g1 g2 g3 s0
      have hba := below_alloc wr (.cells #[.int .i64 mn, .int .i64 msi, .bool mf] 45)
      have hbb := hb.trans (hba.mono hb.size)
      clear hba
      by_cases hx : msi = s
      · have HX2 : Hid (X + 1 = manyN (ms.take (k + 1)) s) := by unfold Hid; rw [s0, if_pos hx]
        subst hx
        clear s0
        go_wp2_with fail
        go_roundw
        case rel => exact ⟨k + 1, X + 1, by omega, by go_num, by go_num, by omega, HX2, hbb⟩
        case measure => simp [intOf]; omega
      · have HX2 : Hid (X = manyN (ms.take (k + 1)) s) := by unfold Hid; rw [s0, if_neg hx]; rfl
        clear s0
        go_wp2_with fail
        go_roundw
        case rel => exact ⟨k + 1, X, by omega, by go_num, rfl, by omega, HX2, hbb⟩
        case measure => simp [intOf]; omega
    · have HX2 : Hid (X = R) := by unfold Hid; rw [HX.out, ← HR.out, List.take_of_length_le (by rw [HL.out]; omega)]
      clear HX hr
      go_wp2_with fail
      go_ret
      exact ⟨ret_int (by rw [HX2.out]), hb⟩

/-- The first of some nodes that is alive, at home there, and not in the chain; -1: none is. -/
def rspL (al : Nat) (hs : List Int) (e : Int) (ms : List Mb) (s : Int) : List Nat → Int
  | [] => -1
  | k :: l => if al.testBit k = true ∧ hs.getD k 0 = s ∧ plc e ms (k : Int) < 0 then (k : Int) else rspL al hs e ms s l

/-- .. of all nodes. -/
def rspV (al : Nat) (hs : List Int) (e : Int) (ms : List Mb) (s : Int) : Int := rspL al hs e ms s (List.range 6)

theorem range_drop {k : Nat} (h : k < 6) : (List.range 6).drop k = k :: (List.range 6).drop (k + 1) := by
  obtain rfl | rfl | rfl | rfl | rfl | rfl : k = 0 ∨ k = 1 ∨ k = 2 ∨ k = 3 ∨ k = 4 ∨ k = 5 := by omega
  all_goals rfl

theorem At.arr6 {w : World} {g : Nat} {h0 h1 h2 h3 h4 h5 : Int} (h : At 23 w g #[.int .i64 h0, .int .i64 h1, .int .i64 h2, .int .i64 h3, .int .i64 h4, .int .i64 h5]) (k : Nat) (hk : k < 6) : w.cell? ⟨g, k, none⟩ = some (.int .i64 (([h0, h1, h2, h3, h4, h5] : List Int).getD k 0)) := by
  obtain rfl | rfl | rfl | rfl | rfl | rfl : k = 0 ∨ k = 1 ∨ k = 2 ∨ k = 3 ∨ k = 4 ∨ k = 5 := by omega
  · exact h.cell 0
  · exact h.cell 1
  · exact h.cell 2
  · exact h.cell 3
  · exact h.cell 4
  · exact h.cell 5

set_option maxRecDepth 20000 in
set_option maxHeartbeats 2000000 in
theorem rSpare_any (e : Int) (p : Option Addr) (n c : Nat) (ms : List Mb) (al : Nat) (h0 h1 h2 h3 h4 h5 : Int) (s : Int) (w : World) (hal : al < 18446744073709551616) (hr : RdM w p n c ms) (hn : n ≤ 5864062014805) :
    Calls Tryd.prog 36 #[.agg #[.int .i64 e, .slice p n c], .int .u64 (al : Int), .agg #[.int .i64 h0, .int .i64 h1, .int .i64 h2, .int .i64 h3, .int .i64 h4, .int .i64 h5], .int .i64 s] w fun r w' => r = .returned (.int .i64 (rspV al [h0, h1, h2, h3, h4, h5] e ms s)) ∧ Below w.heap.size w w' := by
  have hb0 : Below w.heap.size w ((w.alloc (.cells #[.int .i64 e, .slice p n c] 28)).alloc (.cells #[.int .i64 h0, .int .i64 h1, .int .i64 h2, .int .i64 h3, .int .i64 h4, .int .i64 h5] 23)) := ((Below.refl _ _).alloc (Nat.le_refl _) _).alloc (by simp) _
  have hX : At 28 ((w.alloc (.cells #[.int .i64 e, .slice p n c] 28)).alloc (.cells #[.int .i64 h0, .int .i64 h1, .int .i64 h2, .int .i64 h3, .int .i64 h4, .int .i64 h5] 23)) w.heap.size #[.int .i64 e, .slice p n c] := (At.new 28 w _).alloc _
  have hH : At 23 ((w.alloc (.cells #[.int .i64 e, .slice p n c] 28)).alloc (.cells #[.int .i64 h0, .int .i64 h1, .int .i64 h2, .int .i64 h3, .int .i64 h4, .int .i64 h5] 23)) (w.heap.size + 1) #[.int .i64 h0, .int .i64 h1, .int .i64 h2, .int .i64 h3, .int .i64 h4, .int .i64 h5] := At.moved (by simp) (At.new 23 _ _)
  have hF := fun W => from_any al W hal
  have hbl := bitL_len al
  obtain ⟨R, HR⟩ : ∃ x, Hid (rspL al [h0, h1, h2, h3, h4, h5] e ms s (List.range 6) = x) := ⟨_, rfl⟩
  have hRV : rspV al [h0, h1, h2, h3, h4, h5] e ms s = R := HR.out
  rw [hRV]
  have hget : ∀ k, k < 64 → (bitL al).getD k false = al.testBit k := fun k hk => bitL_get al hk
  have hOne := bools_one (bitL al)
  have hInf := info_set (bitL al) hbl
  clear hRV
  generalize hw : w.heap.size = b at *
  generalize bitL al = bs at *
  go_enter Tryd.func36, Tryd.ntmps36
  go_wp2_with fail
  generalize ((w.alloc (.cells #[.int .i64 e, .slice p n c] 28)).alloc (.cells #[.int .i64 h0, .int .i64 h1, .int .i64 h2, .int .i64 h3, .int .i64 h4, .int .i64 h5] 23)) = w0 at *
  refine (hF _).mono ?_
  rintro r w1 ⟨rfl, hb1⟩
  have hzy : (bools (List.replicate 64 false)).size = (bools bs).size := by rw [bools_size, bools_size, hbl]; rfl
  have hY1 : Arr (w1.alloc (.cells (bools (List.replicate 64 false)) 78)) w1.heap.size (List.replicate 64 false) := heap_alloc_new _ _
  have hY2 := hY1.setRow bs
  have hbt : Below w1.heap.size w1 ((w1.alloc (.cells (bools (List.replicate 64 false)) 78)).setRow w1.heap.size (bools bs)) := ((Below.refl _ _).alloc (Nat.le_refl _) _).trans (below_setRow _ _ _ (Nat.le_refl _))
  have hX2 := (hX.below hb1).below hbt
  have hH2 := (hH.below hb1).below hbt
  have hB1 := hb0.trans (hb1.mono (by have := hb0.size; omega))
  have hB2 := hB1.trans (hbt.mono (by have := hB1.size; omega))
  clear hF hbt hb1 hb0 hB1 hX hH
  generalize hob : Obj.cells (bools (List.replicate 64 false)) 78 = ob at hY1 hY2 hX2 hH2 hB2
  rw [zero64] at hob
  subst hob
  go_wp2_with (refine wpList_store_row rfl 78 _ _ rfl w1.heap.size (bools bs) rfl rfl _ _ hY1 hInf hzy hOne ?_)
  clear hY1
  generalize (w1.alloc _).setRow w1.heap.size (bools bs) = w2 at hY2 hX2 hH2 hB2 ⊢
  generalize w1.heap.size = G at *
  obtain ⟨hs, HS⟩ : ∃ l : List Int, Hid (l = [h0, h1, h2, h3, h4, h5]) := ⟨_, rfl⟩
  rw [← HS.out] at HR
  have h6 : ∀ W, At 23 W (b + 1) #[.int .i64 h0, .int .i64 h1, .int .i64 h2, .int .i64 h3, .int .i64 h4, .int .i64 h5] → ∀ k, k < 6 → W.cell? ⟨b + 1, k, none⟩ = some (.int .i64 (hs.getD k 0)) := fun W hx k hk => by rw [HS.out]; exact hx.arr6 k hk
  clear HS
  go_loopw [13] (fun i wr => ∃ k : Nat, k ≤ 6 ∧ i = .int .i64 k ∧ Hid (rspL al hs e ms s ((List.range 6).drop k) = R) ∧ Arr wr G bs ∧ At 28 wr b #[.int .i64 e, .slice p n c] ∧ At 23 wr (b + 1) #[.int .i64 h0, .int .i64 h1, .int .i64 h2, .int .i64 h3, .int .i64 h4, .int .i64 h5] ∧ Below b w wr) (fun i _ => 6 - (intOf i).toNat)
  case atStart => exact ⟨0, by omega, rfl, HR, hY2, hX2, hH2, hB2⟩
  case round =>
    clear HR hY2 hX2 hH2 hB2
    obtain ⟨k, hk, rfl, HR, hA, hX, hH, hb⟩ := hrel
    by_cases h : k < 6
    · have hR := HR.out
      rw [range_drop h, rspL] at hR
      have y0 := hA.cell (i := k) (by rw [hbl]; omega)
      rw [hget k (by omega)] at y0
      have y1 := h6 _ hH k h
      obtain ⟨x0, x1⟩ := hX.two
      have hP := rPlace_any e p n c ms (k : Int) wr (hr.below (by rw [hw]; exact hb)) hn
      clear HR h6
      generalize hs.getD k 0 = hk0 at *
      generalize plc e ms (k : Int) = pl at *
      cases hbit : al.testBit k with
      | false =>
        have HR : Hid (rspL al hs e ms s ((List.range 6).drop (k + 1)) = R) := by unfold Hid; rw [← hR, if_neg (fun hh => by rw [hbit] at hh; cases hh.1)]
        rw [hbit] at y0
        clear hR hP hbit hget
        go_wp2_with fail
        go_roundw
        case rel => exact ⟨k + 1, by omega, by go_num, HR, hA, hX, hH, hb⟩
        case measure => simp [intOf]; omega
      | true =>
        rw [hbit] at y0
        by_cases hhs : hk0 = s
        · by_cases hpl : pl < 0
          · have HR : Hid ((k : Int) = R) := by unfold Hid; rw [← hR, if_pos ⟨hbit, hhs, hpl⟩]
            subst hhs
            clear hR hbit hget
            go_wp2_with fail
            refine hP.mono ?_
            rintro r w4 ⟨rfl, hb4⟩
            have hB4 := hb.trans (hb4.mono (by have := hb.size; omega))
            clear hP
            go_wp2_with fail
            go_ret
            exact ⟨ret_int HR.out, hB4⟩
          · have HR : Hid (rspL al hs e ms s ((List.range 6).drop (k + 1)) = R) := by unfold Hid; rw [← hR, if_neg (fun hh => hpl hh.2.2)]
            subst hhs
            clear hR hbit hget
            go_wp2_with fail
            refine hP.mono ?_
            rintro r w4 ⟨rfl, hb4⟩
            have hB4 := hb.trans (hb4.mono (by have := hb.size; omega))
            clear hP
            go_wp2_with fail
            go_roundw
            case rel => exact ⟨k + 1, by omega, by go_num, HR, hA.below hb4, hX.below hb4, hH.below hb4, hB4⟩
            case measure => simp [intOf]; omega
        · have HR : Hid (rspL al hs e ms s ((List.range 6).drop (k + 1)) = R) := by unfold Hid; rw [← hR, if_neg (fun hh => hhs hh.2.1)]
          clear hR hP hbit hget
          go_wp2_with fail
          go_roundw
          case rel => exact ⟨k + 1, by omega, by go_num, HR, hA, hX, hH, hb⟩
          case measure => simp [intOf]; omega
    · have HR2 : Hid (-1 = R) := by
        have e6 : k = 6 := by omega
        have := HR.out
        rw [e6] at this
        exact this
      clear HR hr hget h6
      go_wp2_with fail
      go_ret
      exact ⟨ret_int HR2.out, hb⟩

theorem homN_test (hs : List Int) (s : Int) (j : Nat) (hj : j < 64) : ∀ k, (homN hs s k).testBit j = decide (j < k ∧ hs.getD j 0 = s)
  | 0 => by rw [homN, Nat.zero_testBit]; symm; exact decide_eq_false (fun h => absurd h.1 (Nat.not_lt_zero _))
  | k + 1 => by
    have ih := homN_test hs s j hj k
    rw [homN]
    split
    · next h =>
      rw [Nat.testBit_or, ih, bitN_test (k : Int) j hj]
      by_cases hk : k = j
      · subst hk
        rw [decide_eq_true (⟨Nat.lt_succ_self _, h⟩ : k < k + 1 ∧ hs.getD k 0 = s)]
        simp
      · have e1 : (((k : Int) == (j : Int)) : Bool) = false := by simpa using fun e => hk (by omega)
        have e2 : (j < k + 1 ∧ hs.getD j 0 = s) ↔ (j < k ∧ hs.getD j 0 = s) := ⟨fun hh => ⟨by omega, hh.2⟩, fun hh => ⟨by omega, hh.2⟩⟩
        rw [e1, Bool.or_false, decide_eq_decide.2 e2]
    · next h =>
      rw [ih]
      refine decide_eq_decide.2 ⟨fun hh => ⟨by omega, hh.2⟩, fun hh => ⟨?_, hh.2⟩⟩
      by_cases hk : j = k
      · subst hk; exact absurd hh.2 h
      · omega

theorem not_test (y j : Nat) (hy : y < 18446744073709551616) (hj : j < 64) : (18446744073709551615 - y).testBit j = !y.testBit j := by
  have h := Nat.testBit_two_pow_sub_succ (n := 64) (x := y) (by simpa using hy) j
  rw [show (2 : Nat) ^ 64 - (y + 1) = 18446744073709551615 - y by omega, decide_eq_true hj] at h
  simpa using h

theorem plc_none {e : Int} {ms : List Mb} (hc : chk e ms = true) (j : Int) : plc e ms j < 0 ↔ (ms.any fun m => m.n == j) = false := by
  unfold plc
  rw [if_pos hc]
  have h := ixM_any (fun m => m.n == j) ms 0
  cases ha : ms.any (fun m => m.n == j) with
  | true => rw [ha] at h; have := of_decide_eq_true h; exact ⟨fun _ => by omega, fun h => by cases h⟩
  | false => rw [ha] at h; have := of_decide_eq_false h; exact ⟨fun _ => rfl, fun _ => by omega⟩

theorem spareW_test {al : Nat} {hs : List Int} {e : Int} {ms : List Mb} (hc : chk e ms = true) (s : Int) (j : Nat) (hj : j < 64) : (spareW al hs ms s).testBit j = true ↔ j < 6 ∧ al.testBit j = true ∧ hs.getD j 0 = s ∧ plc e ms (j : Int) < 0 := by
  unfold spareW
  rw [Nat.testBit_and, Nat.testBit_and, homN_test hs s j hj, not_test _ j (thN_lt _ _ _ (by decide)) hj, thN_test (fun _ => true) j hj ms 0, Nat.zero_testBit, plc_none hc]
  simp only [Bool.false_or, Bool.true_and, Bool.and_eq_true, decide_eq_true_eq, Bool.not_eq_true']
  exact ⟨fun h => ⟨h.1.1.1, h.1.2, h.1.1.2, h.2⟩, fun h => ⟨⟨⟨h.1, h.2.2.1⟩, h.2.1⟩, h.2.2.2⟩⟩

/-- The document's spare one is the program's. -/
theorem rsp_eq {al : Nat} {hs : List Int} {e : Int} {ms : List Mb} (hc : chk e ms = true) (s : Int) : rspV al hs e ms s = spareV al hs ms s := by
  have hlt : spareW al hs ms s < 18446744073709551616 := and_lt64 (and_lt64 (homN_lt _ _ _))
  have ht := fun j hj => spareW_test (al := al) (hs := hs) hc s j hj
  have key : ∀ d k, k + d = 6 → (∀ j, j < k → (spareW al hs ms s).testBit j = false) → rspL al hs e ms s ((List.range 6).drop k) = lowV (spareW al hs ms s) := by
    intro d
    induction d with
    | zero =>
      intro k hk hz
      obtain rfl : k = 6 := by omega
      have h0 : spareW al hs ms s = 0 := by
        apply Nat.eq_of_testBit_eq
        intro j
        rw [Nat.zero_testBit]
        by_cases h6 : j < 6
        · exact hz j h6
        · by_cases h64 : j < 64
          · cases hb : (spareW al hs ms s).testBit j with
            | false => rfl
            | true => exact absurd ((ht j h64).1 hb).1 h6
          · exact Nat.testBit_lt_two_pow (Nat.lt_of_lt_of_le hlt (by have : (2 : Nat) ^ 64 ≤ 2 ^ j := Nat.pow_le_pow_right (by decide) (by omega); simpa using this))
      rw [h0]
      rfl
    | succ d ih =>
      intro k hk hz
      have hk6 : k < 6 := by omega
      rw [range_drop hk6, rspL]
      by_cases hb : (spareW al hs ms s).testBit k = true
      · rw [if_pos ((ht k (by omega)).1 hb).2]
        have h0 : spareW al hs ms s ≠ 0 := fun h => by rw [h, Nat.zero_testBit] at hb; cases hb
        obtain ⟨h1, h2⟩ := tz_spec (Nat.pos_of_ne_zero h0) hlt
        unfold lowV
        rw [if_neg h0]
        have h3 : ¬ k < tz (spareW al hs ms s) := fun h => by rw [h2 k h] at hb; cases hb
        have h4 : ¬ tz (spareW al hs ms s) < k := fun h => by rw [hz _ h] at h1; cases h1
        congr 1
        omega
      · rw [if_neg (fun hh => hb ((ht k (by omega)).2 ⟨hk6, hh⟩))]
        refine ih (k + 1) (by omega) (fun j hj => ?_)
        by_cases hjk : j = k
        · subst hjk; simpa using hb
        · exact hz j (by omega)
  exact key 6 0 rfl (fun j hj => absurd hj (Nat.not_lt_zero _))

end Go.Proofs.YtigojnpjpagfjaaDoor.M
