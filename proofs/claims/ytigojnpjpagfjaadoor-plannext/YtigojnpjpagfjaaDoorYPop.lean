/-
  Own text: the contract of mask's Len.
-/
import Derived.Test.YtigojnpjpagfjaaDoorYBase
import Derived.Test.YtigojnpjpagfjaaDoorKCnt
namespace Go.Proofs.YtigojnpjpagfjaaDoor.M
open Go.ChangeShapes Go.WideShapes Go.ChangeAt Go.RowKit

set_option maxRecDepth 20000 in
theorem ones_core (x a b c d e z : Nat) (w : World) (ha : a ≤ 6148914691236517205) (hb : b ≤ 6148914691236517205) (hc : c ≤ 3689348814741910323) (hd : d ≤ 3689348814741910323) (he : e ≤ 1085102592571150095) (h1 : bits .and .u64 ((x : Int) / 2) 6148914691236517205 = (a : Int)) (h2 : bits .and .u64 (x : Int) 6148914691236517205 = (b : Int)) (h3 : bits .and .u64 (((a : Int) + (b : Int)) / 4) 3689348814741910323 = (c : Int)) (h4 : bits .and .u64 ((a : Int) + (b : Int)) 3689348814741910323 = (d : Int)) (h5 : bits .and .u64 (((c : Int) + (d : Int)) / 16 + ((c : Int) + (d : Int))) 1085102592571150095 = (e : Int))
    (h6 : bits .and .i64 ((e : Int) + (e : Int) / 256 + ((e : Int) + (e : Int) / 256) / 65536 + ((e : Int) + (e : Int) / 256 + ((e : Int) + (e : Int) / 256) / 65536) / 4294967296) 127 = (z : Int)) :
    Calls Tryd.prog 59 #[.int .u64 x] w fun r w' => r = .returned (.int .i64 z) ∧ w' = w := by
  go_enter Tryd.func59, Tryd.ntmps59
  go_wp2
  go_ret
  exact ⟨rfl, rfl⟩

theorem ones_count (x : Nat) (w : World) (h : x < 18446744073709551616) :
    Calls Tryd.prog 59 #[.int .u64 x] w fun r w' => r = .returned (.int .i64 (pop x)) ∧ w' = w := by
  have m1 := mask1_eq
  have m2 := mask2_eq
  have m3 := mask3_eq
  have s1 := sum1 32 x
  have s2 := sum2 16 x
  have s3 := sum3 8 x
  obtain ⟨p1, p2⟩ := pop_sum x
  have e1 := u64_and_nat (x / 2) (mask1 32) (by omega) (by omega)
  have e2 := u64_and_nat x (mask1 32) h (by omega)
  have l1 : (x / 2) &&& mask1 32 ≤ mask1 32 := Nat.and_le_right
  have l2 : x &&& mask1 32 ≤ mask1 32 := Nat.and_le_right
  rw [show 2 * 16 = 32 from rfl, ← s1] at s2
  rw [show 2 * 8 = 16 from rfl, ← s2] at s3
  rw [m1] at e1 e2 l1 l2 s2 s3
  rw [m2] at s2 s3
  rw [m3] at s3
  generalize (x / 2) &&& 6148914691236517205 = a at e1 l1 s2 s3
  generalize x &&& 6148914691236517205 = b at e2 l2 s2 s3
  have e3 := u64_and_nat ((a + b) / 4) 3689348814741910323 (by omega) (by omega)
  have e4 := u64_and_nat (a + b) 3689348814741910323 (by omega) (by omega)
  have l3 : ((a + b) / 4) &&& 3689348814741910323 ≤ 3689348814741910323 := Nat.and_le_right
  have l4 : (a + b) &&& 3689348814741910323 ≤ 3689348814741910323 := Nat.and_le_right
  generalize ((a + b) / 4) &&& 3689348814741910323 = c at e3 l3 s3
  generalize (a + b) &&& 3689348814741910323 = d at e4 l4 s3
  have e5 := u64_and_nat ((c + d) / 16 + (c + d)) 1085102592571150095 (by omega) (by omega)
  rw [s3] at e5
  generalize dig8 x 8 = e at e5 p1 p2
  have e6 := and127 (e + e / 256 + (e + e / 256) / 65536 + (e + e / 256 + (e + e / 256) / 65536) / 4294967296) (by omega)
  rw [p1] at e6
  clear s1 s2 s3 m1 m2 m3 p1
  refine ones_core x a b c d e (pop x) w l1 l2 l3 l4 p2 ?_ ?_ ?_ ?_ ?_ ?_
  · rw [show (x : Int) / 2 = ((x / 2 : Nat) : Int) by omega]; exact e1
  · exact e2
  · rw [show ((a : Int) + (b : Int)) / 4 = (((a + b) / 4 : Nat) : Int) by omega]; exact e3
  · rw [show ((a : Int) + (b : Int)) = (((a + b) : Nat) : Int) by omega]; exact e4
  · rw [show ((c : Int) + (d : Int)) / 16 + ((c : Int) + (d : Int)) = (((c + d) / 16 + (c + d) : Nat) : Int) by omega]; exact e5
  · rw [← e6]
    congr 1

set_option maxRecDepth 20000 in
theorem len_any (x : Nat) (w : World) (h : x < 18446744073709551616) : Calls Tryd.prog 35 #[.int .u64 x] w fun e w' => e = .returned (.int .i64 (pop x)) ∧ w' = w := by
  have hc := ones_count x w h
  generalize pop x = z at hc ⊢
  go_enter Tryd.func35, Tryd.ntmps35
  go_wp2_with fail
  refine hc.mono ?_
  rintro e w1 ⟨rfl, hw⟩
  subst hw
  go_wp2_with fail
  go_ret
  exact ⟨rfl, rfl⟩

end Go.Proofs.YtigojnpjpagfjaaDoor.M
