/-
  Own text: whether two lists of what was seen are the same: the contract of slices.Equal over them.
-/
import Derived.Test.YtphdbpljgilcgaaDoorSRight
namespace Go.Proofs.YtphdbpljgilcgaaDoor.M
open Go.ChangeShapes Go.WideShapes Go.ChangeAt Go.RowKit
set_option linter.unusedSimpArgs false

theorem neqM (f g : Sn) (hf : f.n < 18446744073709551616) (hg : g.n < 18446744073709551616) (w : World) : (binOp .neq 36 (.agg #[.int .u8 (bt (f.n) 0), .int .u8 (bt (f.n) 1), .int .u8 (bt (f.n) 2), .int .u8 (bt (f.n) 3), .int .u8 (bt (f.n) 4), .int .u8 (bt (f.n) 5), .int .u8 (bt (f.n) 6), .int .u8 (bt (f.n) 7), .int .i64 f.v]) (.agg #[.int .u8 (bt (g.n) 0), .int .u8 (bt (g.n) 1), .int .u8 (bt (g.n) 2), .int .u8 (bt (g.n) 3), .int .u8 (bt (g.n) 4), .int .u8 (bt (g.n) 5), .int .u8 (bt (g.n) 6), .int .u8 (bt (g.n) 7), .int .i64 g.v])).run Tryd.prog w = .ok (.bool (!eqSn f g)) w := by
  have hS : Tryd.prog.underlying 36 = some (.struct (Tryd.prog.fieldsOf 36)) := by kernel_rfl
  have hp : Tryd.prog.stoodInHeld 36 = false := by kernel_rfl
  have hk := fun w => eql_key f.n g.n 9997 w
  have u3 := Tryd.underlying3
  have a3 := Tryd.isAgg3
  have z3 := Tryd.sizeOf3
  have a4 := Tryd.isAgg34
  have z4 := Tryd.sizeOf34
  have e : eqSn f g = (eqBt f.n g.n && (f.v == g.v)) := by
    rw [eqBt_dec hf hg]
    unfold eqSn Sn.tup
    simp only [Prod.mk.injEq, Bool.decide_and]
    rfl
  rw [e]
  rw [run_neq_struct, show (10000 : Nat) = 9999 + 1 from rfl, run_equalIn_agg w 9999 36 _ _ hS hp]
  simp only [Program.fieldsOf, Tryd.underlying36]
  generalize eqBt f.n g.n = z at *
  generalize bt f.n 0 = x0 at *
  generalize bt f.n 1 = x1 at *
  generalize bt f.n 2 = x2 at *
  generalize bt f.n 3 = x3 at *
  generalize bt f.n 4 = x4 at *
  generalize bt f.n 5 = x5 at *
  generalize bt f.n 6 = x6 at *
  generalize bt f.n 7 = x7 at *
  go_simp
  cases z
  · simp
  · by_cases h : f.v = g.v <;> simp [h]

theorem drop_mb {fs : List Sn} {k : Nat} (h : k < fs.length) : fs.drop k = fs.getD k .z0 :: fs.drop (k + 1) := by
  rw [List.drop_eq_getElem_cons h, List.getD_eq_getElem?_getD, List.getElem?_eq_getElem h]
  rfl

theorem dec_drop {xs ys : List Sn} {k : Nat} (h1 : k < xs.length) (h2 : k < ys.length) : eqSns (xs.drop k) (ys.drop k) = (eqSn (xs.getD k .z0) (ys.getD k .z0) && eqSns (xs.drop (k + 1)) (ys.drop (k + 1))) := by
  rw [drop_mb h1, drop_mb h2]
  exact Bool.eq_iff_iff.2 (by rw [Bool.and_eq_true, eqSns_iff, eqSn_iff, eqSns_iff]; exact List.cons_eq_cons)

set_option maxRecDepth 20000 in
set_option maxHeartbeats 1000000 in
theorem equalM_any (p q : Option Addr) (n m c d : Nat) (xs ys : List Sn) (w : World) (hp : RdM w p n c xs) (hq : RdM w q m d ys) (fx : Fit xs) (fy : Fit ys) (hn : n ≤ 1099511627776) (hm : m ≤ 1099511627776) :
    Calls Tryd.prog 10 #[.slice p n c, .slice q m d] w fun e w' => e = .returned (.bool (eqSns xs ys)) ∧ Below w.heap.size w w' := by
  have hl1 := hp.len
  have hl2 := hq.len
  by_cases hnm : n = m
  · subst hnm
    have HS : Hid (eqSns xs ys = eqSns xs ys) := rfl
    generalize hR : eqSns xs ys = R at HS ⊢
    have HR : Hid (eqSns xs ys = R) := hR
    clear HS hR
    go_enter Tryd.func10, Tryd.ntmps10
    go_wp2_with fail
    go_loopw [13] (fun i wr => ∃ k : Nat, k ≤ n ∧ i = .int .i64 k ∧ Hid (eqSns (xs.drop k) (ys.drop k) = R) ∧ Below w.heap.size w wr) (fun i _ => n - (intOf i).toNat)
    case atStart => exact ⟨0, Nat.zero_le _, rfl, HR, Below.refl _ _⟩
    case round =>
      clear HR
      obtain ⟨k, hk, rfl, HR, hb⟩ := hrel
      by_cases h : k < n
      · obtain ⟨b1, o1, rfl, c1⟩ := (hp.below hb).cells (by omega)
        obtain ⟨b2, o2, rfl, c2⟩ := (hq.below hb).cells (by omega)
        obtain ⟨x0, x1, x2, x3, x4, x5, x6, x7, x8⟩ := c1 k h
        obtain ⟨y0, y1, y2, y3, y4, y5, y6, y7, y8⟩ := c2 k h
        have hfx := fx.get k
        have hfy := fy.get k
        have hk1 : (k : Int) < (n : Int) := by omega
        have hd := dec_drop (xs := xs) (ys := ys) (k := k) (by omega) (by omega)
        have hR2 := HR.out
        rw [hd] at hR2
        clear hp hq c1 c2 HR hd
        generalize xs.getD k .z0 = f at *
        generalize ys.getD k .z0 = g at *
        have hN := fun W => neqM f g hfx hfy W
        have HR : Hid ((eqSn f g && eqSns (xs.drop (k + 1)) (ys.drop (k + 1))) = R) := hR2
        clear hR2 fx fy
        generalize eqSn f g = z at *
        obtain ⟨fn, fv⟩ := f
        obtain ⟨gn, gv⟩ := g
        dsimp only at x0 x1 x2 x3 x4 x5 x6 x7 x8 y0 y1 y2 y3 y4 y5 y6 y7 y8 hN
        clear hfx hfy
        cases z with
        | true =>
          have HR2 : Hid (eqSns (xs.drop (k + 1)) (ys.drop (k + 1)) = R) := by unfold Hid; rw [← HR.out]; rfl
          clear HR
          go_wp2_with fail
          go_quiet (fail)
          go_wp2_with fail
          go_roundw
          case rel => exact ⟨k + 1, by omega, by go_num, HR2, below_drewN hb nq⟩
          case measure => simp [intOf]; omega
        | false =>
          have HR2 : Hid (false = R) := by unfold Hid; rw [← HR.out]; rfl
          clear HR
          go_wp2_with fail
          go_quiet (fail)
          go_wp2_with fail
          go_ret
          exact ⟨ret_bool HR2.out, below_drewN hb nq⟩
      · obtain rfl : k = n := by omega
        have HR2 : Hid (true = R) := by
          unfold Hid; rw [← HR.out, List.drop_of_length_le (by omega), List.drop_of_length_le (by omega)]; rfl
        clear hp hq HR
        go_wp2_with fail
        go_ret
        exact ⟨ret_bool HR2.out, hb⟩
  · have HR : Hid (eqSns xs ys = false) := eqSns_false (fun e => hnm (by rw [← hl1, ← hl2, e]))
    have hne : ((n : Int) == (m : Int)) = false := by simp; omega
    clear hp hq
    go_enter Tryd.func10, Tryd.ntmps10
    go_wp2_with fail
    go_ret
    exact ⟨ret_bool HR.out.symm, Below.refl _ _⟩

end Go.Proofs.YtphdbpljgilcgaaDoor.M
