/-
  Own text: the walk of the law MaskTurned.
-/
import Derived.Test.YtbbcondoenmapadDoorKTurn
import Derived.Test.YtbbcondoenmapadDoorOpen
namespace Go.Proofs.YtbbcondoenmapadDoor.M
open Go.ChangeShapes Go.WideShapes Go.ChangeAt Go.RowKit

theorem rot_back {x t : Nat} (hx : x < 18446744073709551616) (ht : t < 64) : rot (rot x t) ((64 - t) % 64) = x := by
  have h1 := rot_lt (t := t) hx
  have h2 := rot_lt (t := (64 - t) % 64) h1
  apply Nat.eq_of_testBit_eq
  intro j
  by_cases hj : j < 64
  · rw [rot_bit h1 (Nat.mod_lt _ (by decide)) hj, rot_bit hx ht (Nat.mod_lt _ (by decide))]
    congr 1
    omega
  · rw [testBit_high h2 (by omega), testBit_high hx (by omega)]

theorem rot_pop {x t : Nat} (hx : x < 18446744073709551616) (ht : t < 64) : pop (rot x t) = pop x := by
  unfold pop
  have e1 : cnt (fun i => (rot x t).testBit i) 64 = cnt (fun i => x.testBit ((i + (64 - t)) % 64)) 64 := cnt_congr 64 fun i hi => rot_bit hx ht hi
  rw [e1, show cnt (fun i => x.testBit ((i + (64 - t)) % 64)) 64 = cnt (fun i => x.testBit ((i + (64 - t)) % 64)) (t + (64 - t)) by rw [show t + (64 - t) = 64 by omega], cnt_add]
  rw [show cnt (fun i => x.testBit i) 64 = cnt (fun i => x.testBit i) ((64 - t) + t) by rw [show (64 - t) + t = 64 by omega], cnt_add]
  have e2 : cnt (fun i => x.testBit ((i + (64 - t)) % 64)) t = cnt (fun i => x.testBit ((64 - t) + i)) t := by
    apply cnt_congr
    intro i hi
    congr 1
    omega
  have e3 : cnt (fun i => x.testBit ((t + i + (64 - t)) % 64)) (64 - t) = cnt (fun i => x.testBit i) (64 - t) := by
    apply cnt_congr
    intro i hi
    congr 1
    omega
  rw [e2, e3, Nat.add_comm]

theorem neg_mod (n : Int) : (-(n.tmod 64) % 64).toNat = (64 - (n % 64).toNat) % 64 := by
  have := tmod64 n
  omega

set_option maxRecDepth 20000 in
theorem walk_MaskTurned (w : World) (hT : Tab w) (a : Int) (wa : (Lit.int .u64 a).wf = true) (n : Int) (wn : (Lit.int .i64 n).wf = true) :
    Calls Tryd.prog 3 #[.int .u64 a, .int .i64 n] w fun e w' => e = .returned (.bool true) ∧ Below w.heap.size w w' := by
  have ba := u64_bounds wa
  have bn := i64_bounds wn
  obtain ⟨x, rfl⟩ := Int.eq_ofNat_of_zero_le ba.1
  have hx : x < 18446744073709551616 := by omega
  have ht : (n % 64).toNat < 64 := by omega
  have hz := rot_lt (t := (n % 64).toNat) hx
  have c1 := fun W => turned_any x n W hx
  have c2 := fun W => from_any x W hx
  have c3 := fun W => rturned_any x n W hx
  have c4 := fun W => word_any (bitL (rot x (n % 64).toNat)) W (bitL_len _)
  rw [word_bits _ hz] at c4
  have c5 : ∀ W, Calls Tryd.prog 9 #[.int .u64 (rot x (n % 64).toNat), .int .i64 (-(n.tmod 64))] W fun r w' => r = .returned (.int .u64 x) ∧ w' = W := by
    intro W
    have h := turned_any (rot x (n % 64).toNat) (-(n.tmod 64)) W hz
    rw [neg_mod, rot_back hx ht] at h
    exact h
  have c6 : ∀ W, Calls Tryd.prog 13 #[.int .u64 (rot x (n % 64).toNat)] W fun r w' => r = .returned (.int .i64 (pop x)) ∧ w' = W := by
    intro W
    have h := len_any (rot x (n % 64).toNat) W hz
    rw [rot_pop hx ht] at h
    exact h
  have c7 := fun W => len_any x W hx
  have hm := tmod64 n
  have hml1 : -64 ≤ n.tmod 64 := by omega
  have hml2 : n.tmod 64 ≤ 63 := by omega
  clear hm
  generalize pop x = px at c6 c7
  generalize bitL (rot x (n % 64).toNat) = zs at c3 c4
  generalize bitL x = xs at c2 c3
  generalize rot x (n % 64).toNat = z at c1 c4 c5 c6 hz
  generalize hnm : n.tmod 64 = m at c5 hml1 hml2
  go_enter Tryd.func3, Tryd.ntmps3
  go_wp2_with fail
  refine (c1 _).mono ?_
  rintro e w1 ⟨rfl, hw⟩
  subst hw
  go_wp2_with fail
  refine (c2 _).mono ?_
  rintro e w2 ⟨rfl, hb2⟩
  go_wp2_with fail
  refine (c3 _).mono ?_
  rintro e w3 ⟨rfl, hb3⟩
  have hb3' := hb2.trans (hb3.mono hb2.size)
  clear hb2 hb3
  go_wp2_with fail
  refine (c4 _).mono ?_
  rintro e w4 ⟨rfl, hb4⟩
  have hb4' := hb3'.trans (hb4.mono hb3'.size)
  clear hb3' hb4
  have hT4 := hT.below hb4'
  go_wp2_with fail
  refine (c1 _).mono ?_
  rintro e w5 ⟨rfl, hw⟩
  subst hw
  go_wp2_with fail
  refine (c5 _).mono ?_
  rintro e w5 ⟨rfl, hw⟩
  subst hw
  go_wp2_with fail
  refine (c1 _).mono ?_
  rintro e w5 ⟨rfl, hw⟩
  subst hw
  go_wp2_with fail
  refine (c6 _).mono ?_
  rintro e w5 ⟨rfl, hw⟩
  subst hw
  go_wp2_with fail
  refine (c7 _).mono ?_
  rintro e w5 ⟨rfl, hw⟩
  subst hw
  go_wp2_with fail
  refine (awake_any _ hT4).mono ?_
  rintro e w5 ⟨rfl, hb5⟩
  have hb5' := hb4'.trans (hb5.mono hb4'.size)
  go_wp2_with fail
  go_ret
  exact ⟨rfl, hb5'⟩

end Go.Proofs.YtbbcondoenmapadDoor.M
