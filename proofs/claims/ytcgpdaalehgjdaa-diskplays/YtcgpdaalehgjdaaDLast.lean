/-
  Own text: a beginning of bytes; what lasts of a file, in plain words.
-/
import Derived.Test.YtcgpdaalehgjdaaDEq
namespace Go.Proofs.Ytcgpdaalehgjdaa.M
open Go.ChangeShapes Go.WideShapes Go.ChangeAt Go.RowKit

/-- What HasPrefix answers. -/
def hasB (xs ys : List Int) : Bool := decide (ys.length ≤ xs.length) && ((strOfNums (xs.take ys.length)).toList == (strOfNums ys).toList)

theorem hasB_pre {xs ys : List Int} (h : ys <+: xs) : hasB xs ys = true := by
  unfold hasB
  rw [decide_eq_true h.length_le, ← List.prefix_iff_eq_take.1 h]
  simp

set_option maxRecDepth 20000 in
theorem hasp_any (p q : Option Addr) (n c m d : Nat) (xs ys : List Int) (w : World) (hx : Rd .u8 w p n c xs) (hy : Rd .u8 w q m d ys) :
    Calls Try.prog 26 #[.slice p n c, .slice q m d] w fun e w' => e = .returned (.bool (hasB xs ys)) ∧ w' = w := by
  have hcap := hx.cap
  have hnil := hx.nil
  have hxn := hx.len
  have hym := hy.len
  by_cases hmn : m ≤ n
  · have hge : (m : Int) ≤ (n : Int) := by omega
    have hE := equal_some p q m c m d _ _ w (hx.take hmn) hy
    have HB : Hid (hasB xs ys = ((strOfNums (xs.take m)).toList == (strOfNums ys).toList)) := by
      unfold Hid hasB
      rw [hxn, hym, decide_eq_true hmn, Bool.true_and]
    clear hx hy
    generalize ((strOfNums (xs.take m)).toList == (strOfNums ys).toList) = b at *
    cases p with
    | none =>
      obtain rfl : c = 0 := hnil rfl
      obtain rfl : n = 0 := by omega
      obtain rfl : m = 0 := by omega
      go_enter Try.func26, Try.ntmps26
      go_wp2_with fail
      refine hE.mono ?_
      rintro e w1 ⟨rfl, rfl⟩
      go_wp2_with fail
      go_ret
      exact ⟨by rw [HB.out]; rfl, rfl⟩
    | some ad =>
      go_enter Try.func26, Try.ntmps26
      go_wp2_with fail
      refine hE.mono ?_
      rintro e w1 ⟨rfl, rfl⟩
      go_wp2_with fail
      go_ret
      exact ⟨by rw [HB.out]; rfl, rfl⟩
  · have hge : ¬ (m : Int) ≤ (n : Int) := by omega
    have HB : Hid (hasB xs ys = false) := by
      unfold Hid hasB
      rw [hxn, hym, decide_eq_false hmn, Bool.false_and]
    clear hx hy
    go_enter Try.func26, Try.ntmps26
    go_wp2_with fail
    go_ret
    exact ⟨by rw [HB.out]; rfl, rfl⟩

/-- What it answers, where it is a beginning. -/
def HasE (xs ys : List Int) (e : Ending) : Prop := ∃ b, e = .returned (.bool b) ∧ (ys <+: xs → b = true)

theorem hasp_some (p q : Option Addr) (n c m d : Nat) (xs ys : List Int) (w : World) (hx : Rd .u8 w p n c xs) (hy : Rd .u8 w q m d ys) :
    Calls Try.prog 26 #[.slice p n c, .slice q m d] w fun e w' => HasE xs ys e ∧ w' = w :=
  (hasp_any p q n c m d xs ys w hx hy).mono fun _ _ h => ⟨⟨_, h.1, hasB_pre⟩, h.2⟩

/-- What was written lasts in a file. -/
def LP (f : PF) (was : List Int) : Prop := f.cl = false ∧ was <+: f.lasts ∧ f.lasts <+: f.told

theorem LP.crash {f : PF} {was : List Int} (h : LP f was) (k : Int) : LP (f.crash k) was := by
  obtain ⟨h1, h2, h3⟩ := h
  refine ⟨rfl, ?_, List.prefix_refl _⟩
  show was <+: f.rest k
  unfold PF.rest
  by_cases hk : k < 0
  · rw [if_pos hk]; exact h2
  · rw [if_neg hk]
    refine h2.trans ?_
    have e : f.sure = f.lasts.length := by unfold PF.sure; rw [h1]; rfl
    rw [e, List.prefix_iff_eq_take.1 h3]
    rw [List.length_take, Nat.min_eq_left h3.length_le]
    exact List.take_prefix_take_left (Nat.le_add_right _ _)

theorem LP.fall {m : PD} {was : List Int} {i : Nat} (hi : i < 8) (h : LP (m.f i) was) (keep : List Int) : LP ((m.fall keep).f i) was := by
  show LP (fallN m.f keep 8 i) was
  unfold fallN
  rw [if_pos hi]
  exact h.crash _

theorem LP.act {m : PD} {was : List Int} {i : Nat} (hi : i < 8) (n : Nat) (X : Nat → Nat → PF) (h : ∀ n, LP (X n i) was) : LP ((m.act n X).f i) was := by
  unfold PD.act
  split
  · exact h n
  · split
    · exact LP.fall (m := { m with f := X m.left }) hi (h _) _
    · exact h n

theorem LP.up {f : Nat → PF} {was : List Int} {i j : Nat} {x : PF} (h : LP (f i) was) (hx : i = j → LP x was) : LP (upP f j x i) was := by
  by_cases e : i = j
  · subst e; rw [upP_same]; exact hx rfl
  · rw [upP_other _ _ e]; exact h

/-- P5.4, a call. -/
theorem LP.step {m : PD} {was : List Int} {i : Nat} (hi : i < 8) (h : LP (m.f i) was) (k : Dq) (hk : ¬ ((wrap64 ((IntKind.u64.wrap k.op).tmod 9) == 4) = true ∧ k.i = (i : Int))) : LP ((m.step k).1.f i) was := by
  unfold PD.step
  split
  · exact h
  split
  · exact h
  split
  · exact h.fall hi _
  split
  · split <;> exact h
  split
  · exact h
  rename_i h5
  split
  · rename_i h6
    exact LP.act hi _ _ fun _ => h.up fun e => absurd ⟨h6, by omega⟩ hk
  split
  · exact LP.act hi _ _ fun _ => h.up fun e => by
      subst e
      exact ⟨rfl, h.2.1.trans h.2.2, List.prefix_refl _⟩
  split
  · exact h
  · exact LP.act hi _ _ fun n => h.up fun e => by
      subst e
      exact ⟨h.1, h.2.1, h.2.2.trans (List.prefix_append _ _)⟩

/-- Behind a Sync that leaves the power on. -/
theorem LP.sync {m : PD} {i : Nat} (h : (goneE (m.gone 1) == 50) = false) : (m.syncAt i).f i = ⟨(m.f i).told, (m.f i).told, false⟩ := by
  unfold PD.syncAt
  rw [act_on h, upP_same]

theorem goneE_two (b : Bool) : (goneE b != 0) = b ∧ (goneE b == 50) = b := by cases b <;> exact ⟨rfl, rfl⟩

theorem act_down {m : PD} {n : Nat} {X : Nat → Nat → PF} (h : m.gone n = false) : (m.act n X).down = m.down := by
  unfold PD.act
  by_cases h0 : m.left = 0
  · rw [if_pos h0]
  · rw [if_neg h0]
    by_cases h1 : m.left ≤ n
    · have hg : m.gone n = true := decide_eq_true (by omega)
      rw [hg] at h
      cases h
    · rw [if_neg h1]

theorem mod8 (i : Int) : ∃ I : Nat, I < 8 ∧ wrap64 ((IntKind.u64.wrap i).tmod 8) = (I : Int) := by
  have h0 : 0 ≤ IntKind.u64.wrap i ∧ IntKind.u64.wrap i < 18446744073709551616 := by
    rw [IntKind.wrap_u64]
    omega
  obtain ⟨N, hN⟩ := Int.eq_ofNat_of_zero_le h0.1
  rw [hN]
  refine ⟨N % 8, Nat.mod_lt _ (by decide), ?_⟩
  have : ((N : Int).tmod 8) = ((N % 8 : Nat) : Int) := by
    rw [Int.tmod_eq_emod_of_nonneg (Int.natCast_nonneg _)]
    rfl
  rw [this]
  unfold wrap64
  omega

end Go.Proofs.Ytcgpdaalehgjdaa.M
