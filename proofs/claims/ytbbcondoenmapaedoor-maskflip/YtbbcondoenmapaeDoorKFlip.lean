/-
  Own text: contracts of the library's Reverse64, of mask's Flip and of the reference's.
-/
import Derived.Test.YtbbcondoenmapaeDoorKTurn
namespace Go.Proofs.YtbbcondoenmapaeDoor.M
open Go.ChangeShapes Go.WideShapes Go.ChangeAt Go.RowKit

/-- One step of turning bits around: neighbours of 2^s bits change places. -/
def swp (x s M : Nat) : Nat := (x / 2 ^ s &&& M) ||| ((x &&& M) * 2 ^ s % 18446744073709551616)

/-- Which bits a mask has. -/
def Msk (s M : Nat) : Prop := M < 18446744073709551616 ∧ ∀ j, j < 64 → M.testBit j = decide (j / s % 2 = 0)

theorem swp_lt {x s M : Nat} (hM : M < 18446744073709551616) : swp x s M < 18446744073709551616 :=
  or_lt64 (Nat.lt_of_le_of_lt Nat.and_le_right hM) (Nat.mod_lt _ (by decide))

theorem swp_bit {x s M j : Nat} (hm : Msk s M) (hs : s = 1 ∨ s = 2 ∨ s = 4 ∨ s = 8 ∨ s = 16) (hj : j < 64) : (swp x s M).testBit j = x.testBit (if j / s % 2 = 0 then j + s else j - s) := by
  unfold swp
  rw [Nat.testBit_or, Nat.testBit_and, Nat.testBit_div_two_pow, show 18446744073709551616 = 2 ^ 64 from rfl, Nat.testBit_mod_two_pow, decide_eq_true hj, Bool.true_and, Nat.mul_comm, Nat.testBit_two_pow_mul, Nat.testBit_and, hm.2 j hj, hm.2 (j - s) (by omega)]
  by_cases h : j / s % 2 = 0
  · rw [if_pos h, decide_eq_true h, Bool.and_true]
    by_cases hjs : j ≥ s
    · have : (j - s) / s % 2 ≠ 0 := by rcases hs with rfl | rfl | rfl | rfl | rfl <;> omega
      rw [decide_eq_false this, Bool.and_false, Bool.and_false, Bool.or_false]
    · rw [decide_eq_false hjs, Bool.false_and, Bool.or_false]
  · have hjs : j ≥ s := by rcases hs with rfl | rfl | rfl | rfl | rfl <;> omega
    have : (j - s) / s % 2 = 0 := by rcases hs with rfl | rfl | rfl | rfl | rfl <;> omega
    rw [if_neg h, decide_eq_false h, Bool.and_false, Bool.false_or, decide_eq_true hjs, Bool.true_and, decide_eq_true this, Bool.and_true]

theorem msk_of {s M : Nat} (h : (decide (M < 18446744073709551616) && (List.range 64).all fun j => M.testBit j == decide (j / s % 2 = 0)) = true) : Msk s M := by
  rw [Bool.and_eq_true] at h
  refine ⟨of_decide_eq_true h.1, fun j hj => ?_⟩
  have := List.all_eq_true.1 h.2 j (by simpa using hj)
  exact eq_of_beq this

theorem msk1 : Msk 1 6148914691236517205 := msk_of (by decide +kernel)
theorem msk2 : Msk 2 3689348814741910323 := msk_of (by decide +kernel)
theorem msk4 : Msk 4 1085102592571150095 := msk_of (by decide +kernel)
theorem msk8 : Msk 8 71777214294589695 := msk_of (by decide +kernel)
theorem msk16 : Msk 16 281470681808895 := msk_of (by decide +kernel)

/-- The bytes turned around. -/
def flipB (x : Nat) : Nat := rot (swp (swp x 8 71777214294589695) 16 281470681808895) 32

/-- The bits turned around. -/
def flip (x : Nat) : Nat := flipB (swp (swp (swp x 1 6148914691236517205) 2 3689348814741910323) 4 1085102592571150095)

theorem flip_lt (x : Nat) : flip x < 18446744073709551616 := rot_lt (swp_lt msk16.1)

theorem flip_bit {x j : Nat} (hj : j < 64) : (flip x).testBit j = x.testBit (63 - j) := by
  unfold flip flipB
  have b1 : ∀ s i : Nat, i < 64 → (s = 1 ∨ s = 2 ∨ s = 4 ∨ s = 8 ∨ s = 16) → (if i / s % 2 = 0 then i + s else i - s) < 64 := by
    intro s i hi hs
    rcases hs with rfl | rfl | rfl | rfl | rfl <;> split <;> omega
  have h0 : (j + (64 - 32)) % 64 < 64 := Nat.mod_lt _ (by decide)
  rw [rot_bit (swp_lt msk16.1) (by decide) hj, swp_bit msk16 (by omega) h0]
  have h1 := b1 16 _ h0 (by omega)
  rw [swp_bit msk8 (by omega) h1]
  have h2 := b1 8 _ h1 (by omega)
  rw [swp_bit msk4 (by omega) h2]
  have h3 := b1 4 _ h2 (by omega)
  rw [swp_bit msk2 (by omega) h3]
  have h4 := b1 2 _ h3 (by omega)
  rw [swp_bit msk1 (by omega) h4]
  congr 1
  have key : ∀ j : Fin 64, (let q0 := (j.val + (64 - 32)) % 64
    let q1 := if q0 / 16 % 2 = 0 then q0 + 16 else q0 - 16
    let q2 := if q1 / 8 % 2 = 0 then q1 + 8 else q1 - 8
    let q3 := if q2 / 4 % 2 = 0 then q2 + 4 else q2 - 4
    let q4 := if q3 / 2 % 2 = 0 then q3 + 2 else q3 - 2
    if q4 / 1 % 2 = 0 then q4 + 1 else q4 - 1) = 63 - j.val := by decide +kernel
  exact key ⟨j, hj⟩

theorem flip_flip {x : Nat} (hx : x < 18446744073709551616) : flip (flip x) = x := by
  apply Nat.eq_of_testBit_eq
  intro j
  by_cases hj : j < 64
  · rw [flip_bit hj, flip_bit (by omega)]
    congr 1
    omega
  · rw [testBit_high (flip_lt _) (by omega), testBit_high hx (by omega)]

theorem cnt_rev (p : Nat → Bool) : ∀ n, cnt (fun i => p (n - 1 - i)) n = cnt p n
  | 0 => rfl
  | n + 1 => by
    have h := cnt_rev p n
    rw [show n + 1 = 1 + n by omega, cnt_add]
    have e1 : cnt (fun i => p (1 + n - 1 - (1 + i))) n = cnt (fun i => p (n - 1 - i)) n := by
      apply cnt_congr
      intro i hi
      congr 1
      omega
    rw [e1, h, show 1 + n = n + 1 by omega]
    show 0 + (p (n + 1 - 1 - 0)).toNat + cnt p n = cnt p n + (p n).toNat
    rw [show n + 1 - 1 - 0 = n by omega]
    omega

theorem flip_pop (x : Nat) : pop (flip x) = pop x := by
  unfold pop
  rw [← cnt_rev (fun i => x.testBit i) 64]
  apply cnt_congr
  intro i hi
  rw [flip_bit hi]

/-- A step as the machine does it. -/
theorem swp_step (x s D M : Nat) (hx : x < 18446744073709551616) (hM : M < 18446744073709551616) (hD : D = 2 ^ s) :
    bits .and .u64 ((x : Int) / (D : Int)) (M : Int) = ((x / D &&& M : Nat) : Int) ∧ bits .and .u64 (x : Int) (M : Int) = ((x &&& M : Nat) : Int) ∧ IntKind.u64.wrap (((x &&& M : Nat) : Int) * (D : Int)) = (((x &&& M) * D % 18446744073709551616 : Nat) : Int) ∧ bits .or .u64 ((x / D &&& M : Nat) : Int) (((x &&& M) * D % 18446744073709551616 : Nat) : Int) = (swp x s M : Int) := by
  refine ⟨?_, u64_and_nat x M hx hM, ?_, ?_⟩
  · rw [← Int.natCast_ediv, u64_and_nat _ M (Nat.lt_of_le_of_lt (Nat.div_le_self _ _) hx) hM]
  · rw [IntKind.wrap_u64, ← Int.natCast_mul, Int.natCast_emod]
    rfl
  · rw [u64_or_nat _ _ (Nat.lt_of_le_of_lt Nat.and_le_right hM) (Nat.mod_lt _ (by decide))]
    subst hD
    rfl

set_option maxRecDepth 20000 in
theorem rb_core (x a b c y a2 b2 c2 y2 h l z : Nat) (w : World)
    (h1 : bits .and .u64 ((x : Int) / 256) 71777214294589695 = (a : Int)) (h2 : bits .and .u64 (x : Int) 71777214294589695 = (b : Int)) (h3 : IntKind.u64.wrap ((b : Int) * 256) = (c : Int)) (h4 : bits .or .u64 (a : Int) (c : Int) = (y : Int))
    (k1 : bits .and .u64 ((y : Int) / 65536) 281470681808895 = (a2 : Int)) (k2 : bits .and .u64 (y : Int) 281470681808895 = (b2 : Int)) (k3 : IntKind.u64.wrap ((b2 : Int) * 65536) = (c2 : Int)) (k4 : bits .or .u64 (a2 : Int) (c2 : Int) = (y2 : Int))
    (m1 : (y2 : Int) / 4294967296 = (h : Int)) (m2 : IntKind.u64.wrap ((y2 : Int) * 4294967296) = (l : Int)) (m3 : bits .or .u64 (h : Int) (l : Int) = (z : Int)) :
    Calls Tryd.prog 30 #[.int .u64 x] w fun r w' => r = .returned (.int .u64 z) ∧ w' = w := by
  go_enter Tryd.func30, Tryd.ntmps30
  go_wp2
  go_ret
  exact ⟨rfl, rfl⟩

theorem rb_any (x : Nat) (w : World) (hx : x < 18446744073709551616) : Calls Tryd.prog 30 #[.int .u64 x] w fun r w' => r = .returned (.int .u64 (flipB x)) ∧ w' = w := by
  obtain ⟨h1, h2, h3, h4⟩ := swp_step x 8 256 71777214294589695 hx (by decide) rfl
  have hy : swp x 8 71777214294589695 < 18446744073709551616 := swp_lt msk8.1
  obtain ⟨k1, k2, k3, k4⟩ := swp_step (swp x 8 71777214294589695) 16 65536 281470681808895 hy (by decide) rfl
  have hy2 : swp (swp x 8 71777214294589695) 16 281470681808895 < 18446744073709551616 := swp_lt msk16.1
  have m2 : IntKind.u64.wrap ((swp (swp x 8 71777214294589695) 16 281470681808895 : Int) * 4294967296) = ((swp (swp x 8 71777214294589695) 16 281470681808895 * 4294967296 % 18446744073709551616 : Nat) : Int) := by
    rw [IntKind.wrap_u64, Int.natCast_emod, Int.natCast_mul]
    rfl
  have m1 : (swp (swp x 8 71777214294589695) 16 281470681808895 : Int) / 4294967296 = ((swp (swp x 8 71777214294589695) 16 281470681808895 / 4294967296 : Nat) : Int) := by
    rw [Int.natCast_ediv]
    rfl
  have m3 := u64_or_nat (swp (swp x 8 71777214294589695) 16 281470681808895 / 4294967296) (swp (swp x 8 71777214294589695) 16 281470681808895 * 4294967296 % 18446744073709551616) (Nat.lt_of_le_of_lt (Nat.div_le_self _ _) hy2) (Nat.mod_lt _ (by decide))
  have e : swp (swp x 8 71777214294589695) 16 281470681808895 / 4294967296 ||| swp (swp x 8 71777214294589695) 16 281470681808895 * 4294967296 % 18446744073709551616 = flipB x := by
    unfold flipB rot
    rw [Nat.or_comm]
  rw [e] at m3
  exact rb_core x _ _ _ _ _ _ _ _ _ _ _ w h1 h2 h3 h4 k1 k2 k3 k4 m1 m2 m3

set_option maxRecDepth 20000 in
theorem rv_core (x a b c y a2 b2 c2 y2 a3 b3 c3 y3 z : Nat) (w : World)
    (h1 : bits .and .u64 ((x : Int) / 2) 6148914691236517205 = (a : Int)) (h2 : bits .and .u64 (x : Int) 6148914691236517205 = (b : Int)) (h3 : IntKind.u64.wrap ((b : Int) * 2) = (c : Int)) (h4 : bits .or .u64 (a : Int) (c : Int) = (y : Int))
    (k1 : bits .and .u64 ((y : Int) / 4) 3689348814741910323 = (a2 : Int)) (k2 : bits .and .u64 (y : Int) 3689348814741910323 = (b2 : Int)) (k3 : IntKind.u64.wrap ((b2 : Int) * 4) = (c2 : Int)) (k4 : bits .or .u64 (a2 : Int) (c2 : Int) = (y2 : Int))
    (m1 : bits .and .u64 ((y2 : Int) / 16) 1085102592571150095 = (a3 : Int)) (m2 : bits .and .u64 (y2 : Int) 1085102592571150095 = (b3 : Int)) (m3 : IntKind.u64.wrap ((b3 : Int) * 16) = (c3 : Int)) (m4 : bits .or .u64 (a3 : Int) (c3 : Int) = (y3 : Int))
    (cB : Calls Tryd.prog 30 #[.int .u64 y3] w fun r w' => r = .returned (.int .u64 z) ∧ w' = w) :
    Calls Tryd.prog 21 #[.int .u64 x] w fun r w' => r = .returned (.int .u64 z) ∧ w' = w := by
  go_enter Tryd.func21, Tryd.ntmps21
  go_wp2_with fail
  refine cB.mono ?_
  rintro e w1 ⟨rfl, hw⟩
  subst hw
  go_wp2_with fail
  go_ret
  exact ⟨rfl, rfl⟩

theorem rv_any (x : Nat) (w : World) (hx : x < 18446744073709551616) : Calls Tryd.prog 21 #[.int .u64 x] w fun r w' => r = .returned (.int .u64 (flip x)) ∧ w' = w := by
  obtain ⟨h1, h2, h3, h4⟩ := swp_step x 1 2 6148914691236517205 hx (by decide) rfl
  have hy : swp x 1 6148914691236517205 < 18446744073709551616 := swp_lt msk1.1
  obtain ⟨k1, k2, k3, k4⟩ := swp_step (swp x 1 6148914691236517205) 2 4 3689348814741910323 hy (by decide) rfl
  have hy2 : swp (swp x 1 6148914691236517205) 2 3689348814741910323 < 18446744073709551616 := swp_lt msk2.1
  obtain ⟨m1, m2, m3, m4⟩ := swp_step (swp (swp x 1 6148914691236517205) 2 3689348814741910323) 4 16 1085102592571150095 hy2 (by decide) rfl
  exact rv_core x _ _ _ _ _ _ _ _ _ _ _ _ _ w h1 h2 h3 h4 k1 k2 k3 k4 m1 m2 m3 m4 (rb_any _ w (swp_lt msk4.1))

set_option maxRecDepth 20000 in
theorem flip_any (x : Nat) (w : World) (hx : x < 18446744073709551616) : Calls Tryd.prog 10 #[.int .u64 x] w fun r w' => r = .returned (.int .u64 (flip x)) ∧ w' = w := by
  have c := rv_any x w hx
  generalize flip x = z at c ⊢
  go_enter Tryd.func10, Tryd.ntmps10
  go_wp2_with fail
  refine c.mono ?_
  rintro e w1 ⟨rfl, hw⟩
  subst hw
  go_wp2_with fail
  go_ret
  exact ⟨rfl, rfl⟩

/-- The answers the other way around, as far as they have been gone through. -/
def flipL (x k : Nat) : List Bool := (List.range 64).map fun i => decide (i < k) && x.testBit (63 - i)

theorem flipL_len (x k : Nat) : (flipL x k).length = 64 := by simp [flipL]

theorem flipL_zero (x : Nat) : flipL x 0 = List.replicate 64 false := by
  apply List.ext_getElem
  · simp [flipL]
  · intro i h1 h2
    rw [List.getElem_replicate]
    simp only [flipL, List.getElem_map]
    rw [decide_eq_false (by omega)]
    rfl

theorem flipL_set (x k : Nat) : (flipL x k).set k (x.testBit (63 - k)) = flipL x (k + 1) := by
  apply List.ext_getElem
  · simp [flipL]
  · intro i h1 h2
    rw [List.getElem_set]
    simp only [flipL, List.getElem_map, List.getElem_range]
    by_cases h : k = i
    · subst h; simp
    · rw [if_neg h]
      congr 1
      simp only [decide_eq_decide]
      omega

theorem flipL_end (x : Nat) : flipL x 64 = bitL (flip x) := by
  unfold flipL bitL
  apply List.map_congr_left
  intro i hi
  have hi' : i < 64 := by simpa using hi
  rw [decide_eq_true hi', flip_bit hi']
  rfl

set_option maxRecDepth 20000 in
set_option maxHeartbeats 400000 in
theorem rflip_any (x : Nat) (w : World) (hx : x < 18446744073709551616) :
    Calls Tryd.prog 11 #[.int .u64 x] w fun e w' => e = .returned (.int .u64 (flip x)) ∧ Below w.heap.size w w' := by
  have hF := from_any x w hx
  have hi := info_set (bitL x) (bitL_len x)
  go_enter Tryd.func11, Tryd.ntmps11
  go_wp2_with fail
  refine hF.mono ?_
  rintro e w1 ⟨rfl, hb1⟩
  have hZ : Arr (w1.alloc (.cells (bools (List.replicate 64 false)) 36)) w1.heap.size (List.replicate 64 false) := heap_alloc_new _ _
  have hZ2 := hZ.setRow (bitL x)
  have hb2 : Below w.heap.size w ((w1.alloc (.cells (bools (List.replicate 64 false)) 36)).setRow w1.heap.size (bools (bitL x))) := (hb1.alloc hb1.size _).trans (below_setRow _ _ _ hb1.size)
  have hg1 := hb1.size
  clear hb1 hF
  go_wp2_with (refine wpList_store_row rfl 36 _ _ rfl w1.heap.size _ rfl rfl _ _ hZ hi (by rw [bools_size, bools_size, bitL_len]; rfl) (bools_one _) ?_; generalize hW3 : World.setRow _ _ _ = W3; have hA3 : Arr W3 w1.heap.size (bitL x) := (by rw [← hW3]; exact hZ2); have hb3 : Below w.heap.size w W3 := (by rw [← hW3]; exact hb2); clear hW3 hZ hZ2 hb2)
  have hlt := hA3.lt
  go_loopw [8] (fun i wr => ∃ k : Nat, k ≤ 64 ∧ i = .int .i64 k ∧ Arr wr W3.heap.size (flipL x k) ∧ Arr wr w1.heap.size (bitL x) ∧ Below w.heap.size w wr) (fun i _ => 64 - (intOf i).toNat)
  case atStart => exact ⟨0, by omega, rfl, by rw [flipL_zero]; exact heap_alloc_new _ _, hA3.below ((Below.refl _ _).alloc (Nat.le_refl _) _), hb3.alloc hb3.size _⟩
  case round =>
    obtain ⟨k, hk, rfl, hO, hA, hb⟩ := hrel
    have hg3 := hb3.size
    clear hA3 hb3
    by_cases h64 : k < 64
    · have hcs := hA.cell (i := 63 - k) (by rw [bitL_len]; omega)
      rw [bitL_get x (by omega)] at hcs
      have hc := hO.cell (i := k) (by rw [flipL_len]; exact h64)
      have hf := hO.free k
      have hO2 := hO.set k (x.testBit (63 - k))
      rw [flipL_set] at hO2
      have hA2 : Arr (wr.setCell ⟨W3.heap.size, k, none⟩ (.bool (x.testBit (63 - k)))) w1.heap.size (bitL x) := by
        unfold Arr
        rw [Below.heap_setCell _ _ _ _ (by simp; omega)]
        exact hA
      have hb2 : Below w.heap.size w (wr.setCell ⟨W3.heap.size, k, none⟩ (.bool (x.testBit (63 - k)))) := hb.setCell hg3 _
      generalize x.testBit (63 - k) = tb at hO2 hA2 hb2 hcs
      clear hO hA hb hi
      go_wp2
      go_roundw
      case rel => exact ⟨k + 1, by omega, by go_num, hO2, hA2, hb2⟩
      case measure => simp [intOf]; omega
    · obtain rfl : k = 64 := by omega
      rw [flipL_end] at hO
      have hW := word_any (bitL (flip x)) wr (bitL_len _)
      rw [word_bits _ (flip_lt x)] at hW
      have hi2 := info_set (bitL (flip x)) (bitL_len _)
      generalize bitL (flip x) = bs at hO hW hi2
      generalize hz : flip x = z at hW
      have HZ : Hid (flip x = z) := hz
      clear hi hA hz
      go_wp2_with (refine wpList_load_row rfl 36 _ rfl W3.heap.size rfl _ _ _ _ hO Tryd.underlying36 rfl hi2 ?_)
      refine hW.mono ?_
      rintro e w4 ⟨rfl, hb4⟩
      have hb5 := hb.trans (hb4.mono hb.size)
      go_wp2_with fail
      go_ret
      exact ⟨ret_int (by rw [HZ.out]), hb5⟩

end Go.Proofs.YtbbcondoenmapaeDoor.M
