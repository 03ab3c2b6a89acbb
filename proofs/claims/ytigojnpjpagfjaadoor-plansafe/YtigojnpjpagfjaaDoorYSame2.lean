/-
  Own text: whether two chains are the same: contracts of the program's Same and of the reference's.
-/
import Derived.Test.YtigojnpjpagfjaaDoorYFirst
namespace Go.Proofs.YtigojnpjpagfjaaDoor.M
open Go.ChangeShapes Go.WideShapes Go.ChangeAt Go.RowKit

set_option maxRecDepth 20000 in
theorem Same_any (e1 e2 : Int) (p q : Option Addr) (n m c d : Nat) (xs ys : List Mb) (w : World) (hp : RdM w p n c xs) (hq : RdM w q m d ys) (hn : n ≤ 5864062014805) (hm : m ≤ 5864062014805) :
    Calls Tryd.prog 21 #[.agg #[.int .i64 e1, .slice p n c], .agg #[.int .i64 e2, .slice q m d]] w fun e w' => e = .returned (.bool (e1 == e2 && eqMs xs ys)) ∧ Below w.heap.size w w' := by
  have hb0 : Below w.heap.size w ((w.alloc (.cells #[.int .i64 e1, .slice p n c] 28)).alloc (.cells #[.int .i64 e2, .slice q m d] 28)) := ((Below.refl _ _).alloc (Nat.le_refl _) _).alloc (by simp) _
  have hE := equalM_any p q n m c d xs ys _ (hp.below hb0) (hq.below hb0) hn hm
  generalize eqMs xs ys = R at *
  cases he : (e1 == e2) with
  | true =>
    rw [Bool.true_and]
    go_enter Tryd.func21, Tryd.ntmps21
    go_wp2_with fail
    refine hE.mono ?_
    rintro r w1 ⟨rfl, hb1⟩
    go_wp2_with fail
    go_ret
    exact ⟨rfl, hb0.trans (hb1.mono hb0.size)⟩
  | false =>
    rw [Bool.false_and]
    go_enter Tryd.func21, Tryd.ntmps21
    go_wp2_with fail
    go_ret
    exact ⟨rfl, hb0⟩

set_option maxRecDepth 20000 in
set_option maxHeartbeats 2000000 in
theorem rSame_any (e1 e2 : Int) (p q : Option Addr) (n m c d : Nat) (xs ys : List Mb) (w : World) (hp : RdM w p n c xs) (hq : RdM w q m d ys) (hn : n ≤ 5864062014805) (hm : m ≤ 5864062014805) :
    Calls Tryd.prog 20 #[.agg #[.int .i64 e1, .slice p n c], .agg #[.int .i64 e2, .slice q m d]] w fun e w' => e = .returned (.bool (e1 == e2 && eqMs xs ys)) ∧ Below w.heap.size w w' := by
  have hb0 : Below w.heap.size w ((w.alloc (.cells #[.int .i64 e1, .slice p n c] 28)).alloc (.cells #[.int .i64 e2, .slice q m d] 28)) := ((Below.refl _ _).alloc (Nat.le_refl _) _).alloc (by simp) _
  have hl1 := hp.len
  have hl2 := hq.len
  cases he : (e1 == e2) with
  | false =>
    rw [Bool.false_and]
    have hne : (e1 != e2) = true := by simp [bne, he]
    clear hp hq
    go_enter Tryd.func20, Tryd.ntmps20
    go_wp2_with fail
    go_ret
    exact ⟨rfl, hb0⟩
  | true =>
    rw [Bool.true_and]
    have hne : (e1 != e2) = false := by simp [bne, he]
    by_cases hnm : n = m
    · subst hnm
      generalize hR : eqMs xs ys = R
      have HR : Hid (eqMs xs ys = R) := hR
      clear hR
      have hp0 := hp.below hb0
      have hq0 := hq.below hb0
      have a1 : ((w.alloc (.cells #[.int .i64 e1, .slice p n c] 28)).alloc (.cells #[.int .i64 e2, .slice q n d] 28)).cell? ⟨w.heap.size, 1, none⟩ = some (.slice p n c) := by simp
      have a2 : ((w.alloc (.cells #[.int .i64 e1, .slice p n c] 28)).alloc (.cells #[.int .i64 e2, .slice q n d] 28)).cell? ⟨w.heap.size + 1, 1, none⟩ = some (.slice q n d) := by simp
      clear hp hq
      go_enter Tryd.func20, Tryd.ntmps20
      go_wp2_with fail
      generalize ((w.alloc (.cells #[.int .i64 e1, .slice p n c] 28)).alloc (.cells #[.int .i64 e2, .slice q n d] 28)) = w0 at *
      go_loopw [23] (fun i wr => ∃ k : Nat, k ≤ n ∧ i = .int .i64 k ∧ Hid (eqMs (xs.drop k) (ys.drop k) = R) ∧ Below w0.heap.size w0 wr) (fun i _ => n - (intOf i).toNat)
      case atStart => exact ⟨0, Nat.zero_le _, rfl, HR, Below.refl _ _⟩
      case round =>
        clear HR
        obtain ⟨k, hk, rfl, HR, hb⟩ := hrel
        have hbb := hb0.trans (hb.mono hb0.size)
        by_cases h : k < n
        · obtain ⟨g1, o1, rfl, c1⟩ := (hp0.below hb).cells (by omega)
          obtain ⟨g2, o2, rfl, c2⟩ := (hq0.below hb).cells (by omega)
          obtain ⟨x1, x2, x3⟩ := c1 k h
          obtain ⟨y1, y2, y3⟩ := c2 k h
          replace a1 := (hb.cell (p := ⟨w.heap.size, 1, none⟩) (World.block_lt_of_cell? _ _ a1)).trans a1
          replace a2 := (hb.cell (p := ⟨w.heap.size + 1, 1, none⟩) (World.block_lt_of_cell? _ _ a2)).trans a2
          have hk1 : (k : Int) < (n : Int) := by omega
          have hd := dec_drop (xs := xs) (ys := ys) (k := k) (by omega) (by omega)
          have hR2 := HR.out
          rw [hd] at hR2
          clear hp0 hq0 c1 c2 HR hd
          generalize xs.getD k .z0 = f at *
          generalize ys.getD k .z0 = g at *
          by_cases hfg : f = g
          · subst hfg
            have HR : Hid (eqMs (xs.drop (k + 1)) (ys.drop (k + 1)) = R) := by unfold Hid; rw [← hR2, eqM_self]; rfl
            clear hR2
            obtain ⟨fb, fv, fsg⟩ := f
            dsimp only at x1 x2 x3 y1 y2 y3
            go_wp2_with fail
            go_quiet (fail)
            go_wp2_with fail
            go_roundw
            case rel => exact ⟨k + 1, by omega, by go_num, HR, below_drewN hb nq⟩
            case measure => simp [intOf]; omega
          · have HR : Hid (false = R) := by unfold Hid; rw [← hR2, eqM_false hfg]; rfl
            clear hR2
            have hN := neqM f g hfg
            clear hfg
            obtain ⟨fb, fv, fsg⟩ := f
            obtain ⟨gb, gv, gsg⟩ := g
            dsimp only at x1 x2 x3 y1 y2 y3 hN
            go_wp2_with fail
            go_quiet (fail)
            go_wp2_with fail
            go_ret
            exact ⟨ret_bool HR.out, below_drewN hbb nq⟩
        · obtain rfl : k = n := by omega
          have HR2 : Hid (true = R) := by
            unfold Hid; rw [← HR.out, List.drop_of_length_le (by omega), List.drop_of_length_le (by omega)]; rfl
          clear hp0 hq0 HR
          go_wp2_with fail
          go_ret
          exact ⟨ret_bool HR2.out, hbb⟩
    · have HR : Hid (eqMs xs ys = false) := eqMs_false (fun e => hnm (by rw [← hl1, ← hl2, e]))
      have hnn : ((n : Int) != (m : Int)) = true := by simp; omega
      clear hp hq
      go_enter Tryd.func20, Tryd.ntmps20
      go_wp2_with fail
      go_ret
      exact ⟨ret_bool HR.out.symm, hb0⟩

end Go.Proofs.YtigojnpjpagfjaaDoor.M
