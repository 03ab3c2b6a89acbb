/-
  Own text: whether two chains are the same: contracts of slices.Equal over members, of the program's Same and of the reference's.
-/
import Derived.Test.YtcnkpgbmegppbaaYRefC
namespace Go.Proofs.Ytcnkpgbmegppbaa.M
open Go.ChangeShapes Go.WideShapes Go.ChangeAt Go.RowKit

theorem drop_split {l : List Mb} {k : Nat} (h : k < l.length) : l.drop k = l.getD k .z0 :: l.drop (k + 1) := drop_mb h

theorem dec_drop {xs ys : List Mb} {k : Nat} (h1 : k < xs.length) (h2 : k < ys.length) : eqMs (xs.drop k) (ys.drop k) = (eqM (xs.getD k .z0) (ys.getD k .z0) && eqMs (xs.drop (k + 1)) (ys.drop (k + 1))) := by
  rw [drop_mb h1, drop_mb h2]
  exact Bool.eq_iff_iff.2 (by rw [Bool.and_eq_true, eqMs_iff, eqM_iff, eqMs_iff]; exact List.cons_eq_cons)

theorem neqM (f g : Mb) (h : ¬ f = g) (w : World) : (binOp .neq 48 (.agg #[.int .i64 f.n, .int .i64 f.s, .bool f.f]) (.agg #[.int .i64 g.n, .int .i64 g.s, .bool g.f])).run Try.prog w = .ok (.bool true) w := by
  have u3 := Try.underlying3
  have a3 := Try.isAgg3
  have z3 := Try.sizeOf3
  have u4 := Try.underlying4
  have a4 := Try.isAgg4
  have z4 := Try.sizeOf4
  have hS : Try.prog.underlying 48 = some (.struct (Try.prog.fieldsOf 48)) := by kernel_rfl
  have hp : Try.prog.stoodInHeld 48 = false := by kernel_rfl
  obtain ⟨a, b, c⟩ := f
  obtain ⟨a', b', c'⟩ := g
  rw [run_neq_struct, show (10000 : Nat) = 9999 + 1 from rfl, run_equalIn_agg w 9999 48 _ _ hS hp]
  simp only [Program.fieldsOf, Try.underlying48]
  go_simp
  by_cases h1 : a = a'
  · by_cases h2 : b = b'
    · by_cases h3 : c = c'
      · subst h1 h2 h3; exact absurd rfl h
      · simp [h1, h2, h3]
    · simp [h1, h2]
  · simp [h1]

set_option maxRecDepth 20000 in
set_option maxHeartbeats 1000000 in
theorem equalM_any (p q : Option Addr) (n m c d : Nat) (xs ys : List Mb) (w : World) (hp : RdM w p n c xs) (hq : RdM w q m d ys) (hn : n ≤ 5864062014805) (hm : m ≤ 5864062014805) :
    Calls Try.prog 55 #[.slice p n c, .slice q m d] w fun e w' => e = .returned (.bool (eqMs xs ys)) ∧ Below w.heap.size w w' := by
  have hl1 := hp.len
  have hl2 := hq.len
  by_cases hnm : n = m
  · subst hnm
    have HS : Hid (eqMs xs ys = eqMs xs ys) := rfl
    generalize hR : eqMs xs ys = R at HS ⊢
    have HR : Hid (eqMs xs ys = R) := hR
    clear HS hR
    go_enter Try.func55, Try.ntmps55
    go_wp2_with fail
    go_loopw [13] (fun i wr => ∃ k : Nat, k ≤ n ∧ i = .int .i64 k ∧ Hid (eqMs (xs.drop k) (ys.drop k) = R) ∧ Below w.heap.size w wr) (fun i _ => n - (intOf i).toNat)
    case atStart => exact ⟨0, Nat.zero_le _, rfl, HR, Below.refl _ _⟩
    case round =>
      clear HR
      obtain ⟨k, hk, rfl, HR, hb⟩ := hrel
      by_cases h : k < n
      · obtain ⟨b1, o1, rfl, c1⟩ := (hp.below hb).cells (by omega)
        obtain ⟨b2, o2, rfl, c2⟩ := (hq.below hb).cells (by omega)
        obtain ⟨x1, x2, x3⟩ := c1 k h
        obtain ⟨y1, y2, y3⟩ := c2 k h
        have hk1 : (k : Int) < (n : Int) := by omega
        have hd := dec_drop (xs := xs) (ys := ys) (k := k) (by omega) (by omega)
        have hR2 := HR.out
        rw [hd] at hR2
        clear hp hq c1 c2 HR hd
        generalize xs.getD k .z0 = f at *
        generalize ys.getD k .z0 = g at *
        by_cases hfg : f = g
        · subst hfg
          have HR : Hid (eqMs (xs.drop (k + 1)) (ys.drop (k + 1)) = R) := by unfold Hid; rw [← hR2, eqM_self]; rfl
          clear hR2
          obtain ⟨fb, fv, fsg⟩ := f
          dsimp only at x1 x2 x3 y1 y2 y3
          go_wp2_with fail
          go_quiet (fail)
          go_wp2_with fail
          go_roundw
          case rel => exact ⟨k + 1, by omega, by go_num, HR, below_drewN hb nq⟩
          case measure => simp [intOf]; omega
        · have HR : Hid (false = R) := by unfold Hid; rw [← hR2, eqM_false hfg]; rfl
          clear hR2
          have hN := neqM f g hfg
          clear hfg
          obtain ⟨fb, fv, fsg⟩ := f
          obtain ⟨gb, gv, gsg⟩ := g
          dsimp only at x1 x2 x3 y1 y2 y3 hN
          go_wp2_with fail
          go_quiet (fail)
          go_wp2_with fail
          go_ret
          exact ⟨ret_bool HR.out, below_drewN hb nq⟩
      · obtain rfl : k = n := by omega
        have HR2 : Hid (true = R) := by
          unfold Hid; rw [← HR.out, List.drop_of_length_le (by omega), List.drop_of_length_le (by omega)]; rfl
        clear hp hq HR
        go_wp2_with fail
        go_ret
        exact ⟨ret_bool HR2.out, hb⟩
  · have HR : Hid (eqMs xs ys = false) := eqMs_false (fun e => hnm (by rw [← hl1, ← hl2, e]))
    have hne : ((n : Int) == (m : Int)) = false := by simp; omega
    clear hp hq
    go_enter Try.func55, Try.ntmps55
    go_wp2_with fail
    go_ret
    exact ⟨ret_bool HR.out.symm, Below.refl _ _⟩

end Go.Proofs.Ytcnkpgbmegppbaa.M
