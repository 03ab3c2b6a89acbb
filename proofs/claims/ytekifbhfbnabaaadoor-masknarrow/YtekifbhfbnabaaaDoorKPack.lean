/-
  Own text: contracts of mask's ones, holds, and of width and Pack at the statements' example.
-/
import Derived.Test.YtekifbhfbnabaaaDoorKSig
namespace Go.Proofs.YtekifbhfbnabaaaDoor.M
open Go.ChangeShapes Go.WideShapes Go.ChangeAt Go.RowKit

theorem ones_bits (n : Nat) (h : n ≤ 64) : IntKind.u64.wrap (IntKind.u64.wrap (2 ^ n) - 1) = ((2 ^ n - 1 : Nat) : Int) := by
  have h0 : 0 < 2 ^ n := Nat.pow_pos (by decide)
  have h2 : 2 ^ n ≤ 2 ^ 64 := Nat.pow_le_pow_right (by decide) h
  rw [IntKind.wrap_u64, IntKind.wrap_u64, show (2 : Int) ^ n = ((2 ^ n : Nat) : Int) by rw [Int.natCast_pow]; rfl]
  have h3 : (2 : Nat) ^ 64 = 18446744073709551616 := by decide
  generalize 2 ^ n = y at h0 h2 ⊢
  omega

theorem shl_one (n : Nat) (h : n ≤ 64) : Op.shift .shl .u64 1 .i64 (n : Int) = pure (.int .u64 (IntKind.u64.wrap (2 ^ n))) := by
  rw [shift_shl_any .u64 .i64 1 n (by omega), Int.toNat_natCast, Int.one_mul]
  have : min n IntKind.u64.bits = n := Nat.min_eq_left h
  rw [this]

set_option maxRecDepth 20000 in
theorem ones_any (n : Nat) (w : World) (h : n ≤ 64) : Calls Tryd.prog 20 #[.int .i64 n] w fun e w' => e = .returned (.int .u64 ((2 ^ n - 1 : Nat) : Int)) ∧ w' = w := by
  have ho := ones_bits n h
  go_enter Tryd.func20, Tryd.ntmps20
  go_wp2
  go_ret
  exact ⟨ret_int (by first | rfl | exact ho | simp), rfl⟩

set_option maxRecDepth 20000 in
theorem holds_sign (b : Nat) (v : Int) (w : World) (h1 : 1 ≤ b) (h2 : b ≤ 64) :
    Calls Tryd.prog 19 #[.agg #[.int .i64 b, .int .i64 v, .bool true]] w fun e w' => e = .returned (.bool (sgn (IntKind.u64.wrap v).toNat b == v)) ∧ Below w.heap.size w w' := by
  have hc : ∀ W : World, Calls Tryd.prog 5 #[.int .u64 (IntKind.u64.wrap v), .int .i64 b] W fun e w' => e = .returned (.int .i64 (sgn (IntKind.u64.wrap v).toNat b)) ∧ w' = W := by
    intro W
    have h := signed_any (IntKind.u64.wrap v).toNat b W h1 h2
    rw [Int.toNat_of_nonneg (by rw [IntKind.wrap_u64]; omega)] at h
    exact h
  generalize sgn (IntKind.u64.wrap v).toNat b = z at hc ⊢
  go_enter Tryd.func19, Tryd.ntmps19
  go_wp2_with fail
  go_quiet ((go_at_call 5; exact Calls.quiet_of_same (hc _)))
  go_wp2_with fail
  go_ret
  exact ⟨rfl, below_drewN ((Below.refl _ _).alloc (Nat.le_refl _) _) nq⟩

set_option maxRecDepth 20000 in
theorem holds_plain (b : Nat) (v : Nat) (w : World) (h2 : b ≤ 64) (hv : v < 9223372036854775808) :
    Calls Tryd.prog 19 #[.agg #[.int .i64 b, .int .i64 v, .bool false]] w fun e w' => e = .returned (.bool (decide (v ≤ 2 ^ b - 1))) ∧ Below w.heap.size w w' := by
  have hc := fun W => ones_any b W h2
  have hg : decide ((0 : Int) ≤ (v : Int)) = true := by simp
  generalize 2 ^ b - 1 = z at hc ⊢
  go_enter Tryd.func19, Tryd.ntmps19
  go_wp2_with fail
  go_quiet ((go_at_call 20; exact Calls.quiet_of_same (hc _)))
  go_wp2_with fail
  go_ret
  exact ⟨rfl, below_drewN ((Below.refl _ _).alloc (Nat.le_refl _) _) nq⟩

/-- The two fields of the example lie in block g. -/
structure Ex2 (w : World) (g : Nat) : Prop where
  c0 : w.cell? ⟨g, 0, none⟩ = some (.int .i64 3)
  c1 : w.cell? ⟨g, 1, none⟩ = some (.int .i64 (-1))
  c2 : w.cell? ⟨g, 2, none⟩ = some (.bool true)
  c3 : w.cell? ⟨g, 3, none⟩ = some (.int .i64 4)
  c4 : w.cell? ⟨g, 4, none⟩ = some (.int .i64 9)
  c5 : w.cell? ⟨g, 5, none⟩ = some (.bool false)

theorem Ex2.lt {w : World} {g : Nat} (h : Ex2 w g) : g < w.heap.size := World.block_lt_of_cell? _ _ h.c0

theorem Ex2.below {w w' : World} {g : Nat} (h : Ex2 w g) (hb : Below w.heap.size w w') : Ex2 w' g :=
  ⟨by rw [hb.cell (p := ⟨g, 0, none⟩) h.lt]; exact h.c0, by rw [hb.cell (p := ⟨g, 1, none⟩) h.lt]; exact h.c1, by rw [hb.cell (p := ⟨g, 2, none⟩) h.lt]; exact h.c2,
   by rw [hb.cell (p := ⟨g, 3, none⟩) h.lt]; exact h.c3, by rw [hb.cell (p := ⟨g, 4, none⟩) h.lt]; exact h.c4, by rw [hb.cell (p := ⟨g, 5, none⟩) h.lt]; exact h.c5⟩

set_option maxRecDepth 20000 in
set_option maxHeartbeats 400000 in
theorem width_ex (w : World) (g : Nat) (h : Ex2 w g) :
    Calls Tryd.prog 18 #[.slice (some ⟨g, 0, none⟩) 2 2] w fun e w' => e = .returned (.tuple #[.int .i64 7, .bool true]) ∧ Below w.heap.size w w' := by
  go_enter Tryd.func18, Tryd.ntmps18
  go_wp2
  go_loopw [4, 9] (fun v i wr => ((v = .int .i64 0 ∧ i = .int .i64 0) ∨ (v = .int .i64 3 ∧ i = .int .i64 1) ∨ (v = .int .i64 7 ∧ i = .int .i64 2)) ∧ Below w.heap.size w wr) (fun _ i _ => 2 - (intOf i).toNat)
  case atStart => exact ⟨Or.inl ⟨rfl, rfl⟩, Below.refl _ _⟩
  case round =>
    obtain ⟨hv, hb⟩ := hrel
    obtain ⟨c0, c1, c2, c3, c4, c5⟩ := h.below hb
    have hg := Nat.lt_of_lt_of_le h.lt hb.size
    clear h
    rcases hv with ⟨rfl, rfl⟩ | ⟨rfl, rfl⟩ | ⟨rfl, rfl⟩
    · go_wp2
      go_roundw
      case rel => exact ⟨Or.inr (Or.inl ⟨rfl, rfl⟩), hb.alloc hb.size _⟩
      case measure => simp [intOf]
    · go_wp2
      go_roundw
      case rel => exact ⟨Or.inr (Or.inr ⟨rfl, rfl⟩), hb.alloc hb.size _⟩
      case measure => simp [intOf]
    · go_wp2
      go_ret2
      exact ⟨rfl, hb⟩

theorem holds1 (w : World) : Calls Tryd.prog 19 #[.agg #[.int .i64 3, .int .i64 (-1), .bool true]] w fun e w' => e = .returned (.bool true) ∧ Below w.heap.size w w' := by
  have h := holds_sign 3 (-1) w (by decide) (by decide)
  rw [show (sgn (IntKind.u64.wrap (-1)).toNat 3 == -1) = true from by decide +kernel] at h
  exact h

theorem holds2 (w : World) : Calls Tryd.prog 19 #[.agg #[.int .i64 4, .int .i64 9, .bool false]] w fun e w' => e = .returned (.bool true) ∧ Below w.heap.size w w' := by
  have h := holds_plain 4 9 w (by decide) (by decide)
  rw [show decide (9 ≤ 2 ^ 4 - 1) = true from by decide] at h
  exact h

theorem ones3 (w : World) : Calls Tryd.prog 20 #[.int .i64 3] w fun e w' => e = .returned (.int .u64 7) ∧ w' = w := ones_any 3 w (by decide)
theorem ones4 (w : World) : Calls Tryd.prog 20 #[.int .i64 4] w fun e w' => e = .returned (.int .u64 15) ∧ w' = w := ones_any 4 w (by decide)

set_option maxRecDepth 20000 in
set_option maxHeartbeats 400000 in
theorem pack_ex (w : World) (g : Nat) (h : Ex2 w g) :
    Calls Tryd.prog 12 #[.slice (some ⟨g, 0, none⟩) 2 2] w fun e w' => e = .returned (.tuple #[.int .u64 79, .int .i64 0]) ∧ Below w.heap.size w w' := by
  go_enter Tryd.func12, Tryd.ntmps12
  go_wp2_with fail
  refine (width_ex w g h).mono ?_
  rintro e w1 ⟨rfl, hb1⟩
  go_wp2_with fail
  go_loopw [6, 7, 19] (fun v a i wr => ((v = .int .u64 0 ∧ a = .int .i64 0 ∧ i = .int .i64 0) ∨ (v = .int .u64 7 ∧ a = .int .i64 3 ∧ i = .int .i64 1) ∨ (v = .int .u64 79 ∧ a = .int .i64 7 ∧ i = .int .i64 2)) ∧ Below w.heap.size w wr) (fun _ _ i _ => 2 - (intOf i).toNat)
  case atStart => exact ⟨Or.inl ⟨rfl, rfl, rfl⟩, hb1⟩
  case round =>
    obtain ⟨hv, hb⟩ := hrel
    obtain ⟨c0, c1, c2, c3, c4, c5⟩ := h.below hb
    have hg := Nat.lt_of_lt_of_le h.lt hb.size
    clear h hb1
    rcases hv with ⟨rfl, rfl, rfl⟩ | ⟨rfl, rfl, rfl⟩ | ⟨rfl, rfl, rfl⟩
    · go_wp2_with fail
      refine (holds1 _).mono ?_
      rintro e w2 ⟨rfl, hb2⟩
      have hb3 := (hb.alloc hb.size (.cells #[.int .i64 3, .int .i64 (-1), .bool true] 41)).trans (hb2.mono (by have := hb.size; simp; omega))
      have d0 : w2.cell? ⟨wr.heap.size, 0, none⟩ = some (.int .i64 3) := by rw [hb2.cell (p := ⟨wr.heap.size, 0, none⟩) (by simp)]; simp
      have d1 : w2.cell? ⟨wr.heap.size, 1, none⟩ = some (.int .i64 (-1)) := by rw [hb2.cell (p := ⟨wr.heap.size, 1, none⟩) (by simp)]; simp
      clear c0 c1 c2 c3 c4 c5 hb hb2
      go_wp2_with fail
      go_quiet ((go_at_call 20; exact Calls.quiet_of_same (ones3 _)))
      go_wp2_with fail
      go_roundw
      case rel => exact ⟨Or.inr (Or.inl ⟨congrArg _ (by decide +kernel), rfl, rfl⟩), below_drewN hb3 nq⟩
      case measure => simp [intOf]
    · go_wp2_with fail
      refine (holds2 _).mono ?_
      rintro e w2 ⟨rfl, hb2⟩
      have hb3 := (hb.alloc hb.size (.cells #[.int .i64 4, .int .i64 9, .bool false] 41)).trans (hb2.mono (by have := hb.size; simp; omega))
      have d0 : w2.cell? ⟨wr.heap.size, 0, none⟩ = some (.int .i64 4) := by rw [hb2.cell (p := ⟨wr.heap.size, 0, none⟩) (by simp)]; simp
      have d1 : w2.cell? ⟨wr.heap.size, 1, none⟩ = some (.int .i64 9) := by rw [hb2.cell (p := ⟨wr.heap.size, 1, none⟩) (by simp)]; simp
      clear c0 c1 c2 c3 c4 c5 hb hb2
      go_wp2_with fail
      go_quiet ((go_at_call 20; exact Calls.quiet_of_same (ones4 _)))
      go_wp2_with fail
      go_roundw
      case rel => exact ⟨Or.inr (Or.inr ⟨congrArg _ (by decide +kernel), rfl, rfl⟩), below_drewN hb3 nq⟩
      case measure => simp [intOf]
    · go_wp2
      go_ret2
      exact ⟨rfl, hb⟩

theorem of_list : ofN [0, 5, 64] = 33 := by decide +kernel

theorem Rd.three (k : IntKind) (w : World) (e : TypeId) (a b c : Int) : Rd k (w.alloc (.cells #[.int k a, .int k b, .int k c] e)) (some ⟨w.heap.size, 0, none⟩) 3 3 [a, b, c] := by
  refine ⟨rfl, by decide, (fun h => by cases h), fun _ => ⟨w.heap.size, 0, rfl, fun i hi => ?_⟩⟩
  rcases (show i = 0 ∨ i = 1 ∨ i = 2 by omega) with rfl | rfl | rfl <;> simp

set_option maxRecDepth 20000 in
set_option maxHeartbeats 400000 in
theorem awake_any (w : World) (ht : Tab w) : Calls Tryd.prog 7 #[] w fun e w' => e = .returned (.bool true) ∧ Below w.heap.size w w' := by
  have c1 : ∀ W : World, Calls Tryd.prog 11 #[.slice (some ⟨W.heap.size, 0, none⟩) 3 3] (W.alloc (.cells #[.int .i64 0, .int .i64 5, .int .i64 64] 3)) fun e w' => e = .returned (.int .u64 33) ∧ w' = (W.alloc (.cells #[.int .i64 0, .int .i64 5, .int .i64 64] 3)) := by
    intro W
    have h := of_any _ 3 3 [0, 5, 64] _ (Rd.three .i64 W 3 0 5 64) (by decide)
    rw [of_list] at h
    exact h
  have c2 : ∀ (W : World) (g : Nat), g = W.heap.size → Calls Tryd.prog 12 #[.slice (some ⟨g, 0, none⟩) 2 2] (W.alloc (.cells #[.int .i64 3, .int .i64 (-1), .bool true, .int .i64 4, .int .i64 9, .bool false] 41)) fun e w' => e = .returned (.tuple #[.int .u64 79, .int .i64 0]) ∧ Below W.heap.size W w' := by
    rintro W g rfl
    refine (pack_ex _ W.heap.size ⟨by simp, by simp, by simp, by simp, by simp, by simp⟩).mono ?_
    rintro e w' ⟨rfl, hb⟩
    exact ⟨rfl, ((Below.refl _ _).alloc (Nat.le_refl _) _).trans (hb.mono (by simp))⟩
  have c3 : ∀ W : World, Calls Tryd.prog 8 #[.int .i64 300] W fun e w' => e = .returned (.tuple #[.int .i8 44, .int .i16 300, .int .i32 300]) ∧ w' = W := by
    intro W
    have h := narrow_any 300 W
    rw [show IntKind.i8.wrap 300 = 44 from by decide +kernel, show IntKind.i16.wrap 300 = 300 from by decide +kernel, show wrap32 300 = 300 from by decide +kernel] at h
    exact h
  have c4 : ∀ W : World, Tab W → Calls Tryd.prog 13 #[.int .u64 33] W fun e w' => e = .returned (.int .i64 0) ∧ w' = W := by
    intro W hT
    have h := low_any 33 W (by decide) (by decide) hT
    rw [tz33] at h
    exact h
  have c5 : ∀ W : World, Calls Tryd.prog 5 #[.int .u64 7, .int .i64 3] W fun e w' => e = .returned (.int .i64 (-1)) ∧ w' = W := by
    intro W
    have h := signed_any 7 3 W (by decide) (by decide)
    rw [show sgn 7 3 = -1 from by decide +kernel] at h
    exact h
  go_enter Tryd.func7, Tryd.ntmps7
  go_wp2_with fail
  refine (c1 _).mono ?_
  rintro e w1 ⟨rfl, hw⟩
  subst hw
  go_wp2_with fail
  refine (c2 (w.alloc (.cells #[.int .i64 0, .int .i64 5, .int .i64 64] 3)) (w.heap.size + 1) (by simp)).mono ?_
  rintro e w2 ⟨rfl, hb2⟩
  have hbb2 := ((Below.refl w.heap.size w).alloc (Nat.le_refl _) (.cells #[.int .i64 0, .int .i64 5, .int .i64 64] 3)).trans (hb2.mono (by simp))
  have ht2 := ht.below hbb2
  clear hb2
  go_wp2_with fail
  refine (c3 _).mono ?_
  rintro e w3 ⟨rfl, hw⟩
  subst hw
  go_wp2_with fail
  refine (c4 _ ht2).mono ?_
  rintro e w3 ⟨rfl, hw⟩
  subst hw
  go_wp2_with fail
  refine (high33 _).mono ?_
  rintro e w3 ⟨rfl, hw⟩
  subst hw
  go_wp2_with fail
  refine (at_ex _ ht2).mono ?_
  rintro e w3 ⟨rfl, hw⟩
  subst hw
  go_wp2_with fail
  refine (rank_ex _).mono ?_
  rintro e w3 ⟨rfl, hw⟩
  subst hw
  go_wp2_with fail
  refine (c5 _).mono ?_
  rintro e w3 ⟨rfl, hw⟩
  subst hw
  go_wp2_with fail
  go_ret
  exact ⟨rfl, hbb2⟩

end Go.Proofs.YtekifbhfbnabaaaDoor.M
