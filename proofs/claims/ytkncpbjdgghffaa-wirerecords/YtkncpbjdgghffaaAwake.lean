/-
  Own text: the examples of the statements come out true.
-/
import Derived.Test.YtkncpbjdgghffaaRec
import Derived.Test.YtkncpbjdgghffaaEq
namespace Go.Proofs.Ytkncpbjdgghffaa.M
open Go.ChangeShapes Go.WideShapes Go.ChangeAt Go.RowKit

theorem num_form : numR [128, 0] = (0, 0, 10) := by decide +kernel
theorem zig_m1 : zig (-1) = 1 := by decide +kernel
theorem zig_least : zig (-9223372036854775808) = 18446744073709551615 := by decide +kernel
theorem sum_nil : sumN [] = 0 := by decide +kernel
theorem put_example : putAll [0, 127, 128, 300] = [0, 127, 128, 1, 172, 2] := by
  have h0 : putL 0 = [0] := putL_small (by decide)
  have h1 : putL 127 = [127] := putL_small (by decide)
  have h2 : putL 128 = [128, 1] := by rw [putL_great (by decide)]; show 128 :: putL 1 = _; rw [putL_small (by decide)]; rfl
  have h3 : putL 300 = [172, 2] := by rw [putL_great (by decide)]; show 172 :: putL 2 = _; rw [putL_small (by decide)]; rfl
  show (putL 0 ++ (putL 127 ++ (putL 128 ++ (putL 300 ++ [])))) = _
  rw [h0, h1, h2, h3]; rfl
theorem seal_nil_len : (sealL []).length = 5 := by
  have h0 : putL 0 = [0] := putL_small (by decide)
  show ((putL 0 ++ []) ++ sum4 _).length = 5
  rw [h0]; rfl

theorem By.lit2 : By [128, 0] := by unfold By; decide
theorem By.lit6 : By [0, 127, 128, 1, 172, 2] := by unfold By; decide
theorem Wd.lit4 : Wd [0, 127, 128, 300] := by unfold Wd; decide

theorem Rd.two (k : IntKind) (w : World) (e : TypeId) (a b : Int) : Rd k (w.alloc (.cells #[.int k a, .int k b] e)) (some ⟨w.heap.size, 0, none⟩) 2 2 [a, b] := Rd.list k w e [a, b]
theorem Rd.six (k : IntKind) (w : World) (e : TypeId) (a b c d f g : Int) : Rd k (w.alloc (.cells #[.int k a, .int k b, .int k c, .int k d, .int k f, .int k g] e)) (some ⟨w.heap.size, 0, none⟩) 6 6 [a, b, c, d, f, g] := Rd.list k w e [a, b, c, d, f, g]

set_option maxRecDepth 20000 in
set_option maxHeartbeats 400000 in
theorem awake_any (w : World) : Calls Try.prog 4 #[] w fun e w' => e = .returned (.bool true) ∧ Below w.heap.size w w' := by
  have c1 : ∀ W : World, Calls Try.prog 6 #[.slice (some ⟨W.heap.size, 0, none⟩) 2 2] (W.alloc (.cells #[.int .u8 128, .int .u8 0] 5)) fun e w' => e = .returned (.tuple #[.slice none 0 0, .int .i64 0, .int .i64 10]) ∧ w' = (W.alloc (.cells #[.int .u8 128, .int .u8 0] 5)) := by
    intro W
    have h := open_err _ 2 2 [128, 0] _ (Rd.two .u8 W 5 128 0) By.lit2 (by decide) (by rw [num_form]; decide)
    rw [num_form] at h
    exact h
  have c2 : ∀ W : World, Calls Try.prog 5 #[.slice none 0 0] W fun e w' => ∃ p c, e = .returned (.tuple #[.slice p 5 c, .int .i64 0]) ∧ Below W.heap.size W w' := by
    intro W
    refine (seal_any none 0 0 [] W (Rd.empty _ _ _ _ (fun _ => rfl)) By.nil (by decide)).mono ?_
    rintro e w' ⟨p, n, c, rfl, ho, hb⟩
    have hn := ho.len
    rw [seal_nil_len] at hn
    subst hn
    exact ⟨p, c, rfl, hb⟩
  have c3 : ∀ W : World, Calls Try.prog 11 #[.slice none 0 0, .slice (some ⟨W.heap.size, 0, none⟩) 4 4] (W.alloc (.cells #[.int .u64 0, .int .u64 127, .int .u64 128, .int .u64 300] 37)) fun e w' => ∃ p c, e = .returned (.slice p 6 c) ∧ Rd .u8 w' p 6 c [0, 127, 128, 1, 172, 2] ∧ Below W.heap.size W w' := by
    intro W
    refine (put_any none 0 0 [] _ 4 4 [0, 127, 128, 300] _ (Rd.empty _ _ _ _ (fun _ => rfl)) (Rd.four .u64 W 37 0 127 128 300) Wd.lit4 (by decide) (by decide)).mono ?_
    rw [put_example]
    rintro e w' ⟨p, c, rfl, ho, hb⟩
    exact ⟨p, c, rfl, ho.rd, (below_alloc _ _).trans (hb.mono (by simp))⟩
  have c4 : ∀ (W : World) (p q : Option Addr) (c d : Nat), Rd .u8 W p 6 c [0, 127, 128, 1, 172, 2] → Rd .u8 W q 6 d [0, 127, 128, 1, 172, 2] → Calls Try.prog 10 #[.slice p 6 c, .slice q 6 d] W fun e w' => e = .returned (.bool true) ∧ w' = W := by
    intro W p q c d h1 h2
    refine (equal_any p q 6 c 6 d _ _ W h1 h2 By.lit6 By.lit6).mono ?_
    rintro e w' ⟨rfl, rfl⟩
    exact ⟨by simp, rfl⟩
  have c5 : ∀ W : World, Calls Try.prog 12 #[.int .i64 (-1)] W fun e w' => e = .returned (.int .u64 1) ∧ w' = W := by
    intro W
    have h := turn_any (-1) W (by decide) (by decide)
    rw [zig_m1] at h
    exact h
  have c6 : ∀ W : World, Calls Try.prog 12 #[.int .i64 (-9223372036854775808)] W fun e w' => e = .returned (.int .u64 18446744073709551615) ∧ w' = W := by
    intro W
    have h := turn_any (-9223372036854775808) W (by decide) (by decide)
    rw [zig_least] at h
    exact h
  have c7 : ∀ W : World, Calls Try.prog 13 #[.slice none 0 0] W fun e w' => e = .returned (.int .u32 0) ∧ w' = W := by
    intro W
    have h := sum_any none 0 0 [] W (Rd.empty _ _ _ _ (fun _ => rfl)) By.nil (by decide)
    rw [sum_nil] at h
    exact h
  go_enter Try.func4, Try.ntmps4
  go_wp2_with fail
  refine (c1 _).mono ?_
  rintro e w1 ⟨rfl, hw1⟩
  subst hw1
  go_wp2_with fail
  refine (c2 _).mono ?_
  rintro e w2 ⟨p2, k2, rfl, hb2⟩
  go_wp2_with fail
  refine (c3 _).mono ?_
  rintro e w3 ⟨p3, k3, rfl, hr3, hb3⟩
  go_wp2_with fail
  refine (c4 _ _ _ _ _ (hr3.below (below_alloc _ _)) (Rd.six _ _ _ _ _ _ _ _ _)).mono ?_
  rintro e w4 ⟨rfl, hw4⟩
  subst hw4
  go_wp2_with fail
  refine (c5 _).mono ?_
  rintro e w5 ⟨rfl, hw5⟩
  subst hw5
  go_wp2_with fail
  refine (c6 _).mono ?_
  rintro e w6 ⟨rfl, hw6⟩
  subst hw6
  go_wp2_with fail
  refine (c7 _).mono ?_
  rintro e w7 ⟨rfl, hw7⟩
  subst hw7
  go_wp2_with fail
  go_ret
  refine ⟨rfl, ?_⟩
  have s1 : w.heap.size ≤ (w.alloc (.cells #[.int .u8 128, .int .u8 0] 5)).heap.size := by simp
  have s2 := Nat.le_trans s1 hb2.size
  have s3 := Nat.le_trans s2 hb3.size
  exact (((below_alloc w _).trans (hb2.mono s1)).trans (hb3.mono s2)).trans ((below_alloc w3 _).mono s3)

end Go.Proofs.Ytkncpbjdgghffaa.M
