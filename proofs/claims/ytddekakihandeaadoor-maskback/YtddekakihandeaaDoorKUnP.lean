/-
  Own text: the fields of a word, in plain words; packed and unpacked they are as they were.
-/
import Derived.Test.YtddekakihandeaaDoorKPk
namespace Go.Proofs.YtddekakihandeaaDoor.M
open Go.ChangeShapes Go.WideShapes Go.ChangeAt Go.RowKit

/-- The value of a field that begins at a word's lowest bit. -/
def valF (w : Nat) (f : Fld) : Int := if f.s then sgn w f.b.toNat else wrap64 ((w % 2 ^ f.b.toNat : Nat) : Int)

def upL : Nat → List Fld → List Fld
  | _, [] => []
  | w, f :: l => ⟨f.b, valF w f, f.s⟩ :: upL (w / 2 ^ f.b.toNat) l

/-- The fields of a word; none: it has none so. -/
def unpackF (w : Nat) (fs : List Fld) : Option (List Fld) := if (match wdF 0 fs with | none => false | some S => decide (w / 2 ^ S = 0)) && (upL w fs).all fitB then some (upL w fs) else none

theorem upL_len (l : List Fld) : ∀ w, (upL w l).length = l.length := by
  induction l with
  | nil => intro w; rfl
  | cons f l ih => intro w; show (upL _ l).length + 1 = _; rw [ih]; rfl

theorem wd_le : ∀ (l : List Fld) (t S : Nat), t ≤ 64 → wdF t l = some S → t ≤ S ∧ S ≤ 64
  | [], t, S, ht, h => by cases h; exact ⟨Nat.le_refl _, ht⟩
  | f :: l, t, S, ht, h => by
    unfold wdF at h
    by_cases hc : f.b < 1 ∨ (64 : Int) - t < f.b
    · rw [if_pos hc] at h; cases h
    · rw [if_neg hc] at h
      have := wd_le l _ S (by omega) h
      omega

theorem wd_upL (l : List Fld) : ∀ (w t : Nat), wdF t (upL w l) = wdF t l := by
  induction l with
  | nil => intro w t; rfl
  | cons f l ih =>
    intro w t
    show (if f.b < 1 ∨ (64 : Int) - t < f.b then none else wdF (t + f.b.toNat) (upL _ l)) = (if f.b < 1 ∨ (64 : Int) - t < f.b then none else wdF (t + f.b.toNat) l)
    rw [ih]

theorem sgn_mod {a b x : Nat} (h : a % 2 ^ x = b % 2 ^ x) : sgn a x = sgn b x := by unfold sgn; rw [h]

theorem sgn_bd (w b : Nat) (h1 : 1 ≤ b) (h2 : b ≤ 64) : -9223372036854775808 ≤ sgn w b ∧ sgn w b ≤ 9223372036854775807 := by
  have hh := pow_half h1
  have hp : 2 ^ (b - 1) ≤ 9223372036854775808 := Nat.le_trans (Nat.pow_le_pow_right (by decide) (show b - 1 ≤ 63 by omega)) (by decide)
  have hlt : w % 2 ^ b < 2 ^ b := Nat.mod_lt _ (Nat.pow_pos (by decide))
  unfold sgn
  generalize w % 2 ^ b = m at *
  generalize 2 ^ (b - 1) = H at *
  generalize 2 ^ b = B at *
  split <;> omega

theorem wrap64_bd (x : Int) : -9223372036854775808 ≤ wrap64 x ∧ wrap64 x ≤ 9223372036854775807 := by unfold wrap64; omega

theorem valF_bd (w : Nat) (f : Fld) (h1 : 1 ≤ f.b) (h2 : f.b ≤ 64) : -9223372036854775808 ≤ valF w f ∧ valF w f ≤ 9223372036854775807 := by
  unfold valF
  split
  · exact sgn_bd _ _ (by omega) (by omega)
  · exact wrap64_bd _

theorem pk_low : ∀ (l : List Fld) (x t X S : Nat), t ≤ 64 → x < 2 ^ t → wdF t l = some S → pkF x t l = some X → X % 2 ^ t = x ∧ X < 2 ^ S
  | [], x, t, X, S, _, hx, hw, h => by
    cases hw
    cases h
    exact ⟨Nat.mod_eq_of_lt hx, hx⟩
  | f :: l, x, t, X, S, ht, hx, hw, h => by
    unfold wdF at hw
    by_cases hc : f.b < 1 ∨ (64 : Int) - t < f.b
    · rw [if_pos hc] at hw; cases hw
    · rw [if_neg hc] at hw
      unfold pkF at h
      by_cases hf : fitB f = true
      · rw [if_pos hf] at h
        have hl := pk_lt (b := f.b.toNat) (v := uw f.v) hx
        obtain ⟨h1, h2⟩ := pk_low l _ _ X S (by omega) hl hw h
        refine ⟨?_, h2⟩
        have hd : 2 ^ t ∣ 2 ^ (t + f.b.toNat) := Nat.pow_dvd_pow 2 (by omega)
        rw [← Nat.mod_mod_of_dvd X hd, h1, Nat.mul_comm, Nat.or_comm, ← Nat.two_pow_add_eq_or_of_lt hx, Nat.mul_add_mod, Nat.mod_eq_of_lt hx]
      · rw [if_neg hf] at h; cases h

theorem or_add {x y t : Nat} (hx : x < 2 ^ t) : x ||| y * 2 ^ t = 2 ^ t * y + x := by
  rw [Nat.mul_comm, Nat.or_comm, Nat.two_pow_add_eq_or_of_lt hx]

theorem uw_small {v : Int} (h0 : 0 ≤ v) (h : v ≤ 9223372036854775807) : (uw v : Int) = v := by unfold uw; omega

theorem back1 : ∀ (l : List Fld) (x t X S : Nat), t ≤ 64 → x < 2 ^ t → wdF t l = some S → pkF x t l = some X → (∀ f ∈ l, f.ok) → upL (X / 2 ^ t) l = l ∧ l.all fitB = true
  | [], _, _, _, _, _, _, _, _, _ => ⟨rfl, rfl⟩
  | f :: l, x, t, X, S, ht, hx, hw, h, hok => by
    unfold wdF at hw
    by_cases hc : f.b < 1 ∨ (64 : Int) - t < f.b
    · rw [if_pos hc] at hw; cases hw
    · rw [if_neg hc] at hw
      unfold pkF at h
      by_cases hf : fitB f = true
      · rw [if_pos hf] at h
        have hl := pk_lt (b := f.b.toNat) (v := uw f.v) hx
        obtain ⟨h1, _⟩ := pk_low l _ _ X S (by omega) hl hw h
        obtain ⟨i1, i2⟩ := back1 l _ _ X S (by omega) hl hw h (fun g hg => hok g (by simp [hg]))
        have hfo := (hok f (by simp)).2
        obtain ⟨fb, fv, fs⟩ := f
        dsimp only at *
        obtain ⟨B, rfl⟩ := Int.eq_ofNat_of_zero_le (show 0 ≤ fb by omega)
        rw [Int.toNat_natCast] at *
        have hdd : X / 2 ^ t / 2 ^ B = X / 2 ^ (t + B) := by rw [Nat.div_div_eq_div_mul, Nat.pow_add]
        have hm : X / 2 ^ t % 2 ^ B = uw fv % 2 ^ B := by
          have e1 : X % 2 ^ (t + B) / 2 ^ t = X / 2 ^ t % 2 ^ B := by
            rw [Nat.pow_add, Nat.mod_mul_right_div_self]
          rw [← e1, h1, or_add hx, Nat.mul_add_div (Nat.pow_pos (by decide)), Nat.div_eq_of_lt hx, Nat.add_zero]
        have hv : valF (X / 2 ^ t) ⟨(B : Int), fv, fs⟩ = fv := by
          unfold valF
          dsimp only
          rw [Int.toNat_natCast]
          cases fs with
          | true =>
            rw [if_pos rfl, sgn_mod hm]
            have := fit_lo fv B (by omega) (by omega) hfo
            rw [hf, uw_wrap, Int.toNat_natCast, beq_iff_eq] at this
            exact this
          | false =>
            rw [if_neg Bool.false_ne_true, hm]
            unfold fitB at hf
            rw [if_neg Bool.false_ne_true] at hf
            have h5 := of_decide_eq_true hf
            dsimp only at h5
            rw [Int.toNat_natCast] at h5
            have h6 := uw_small h5.1 hfo.2
            have h7 : uw fv < 2 ^ B := by omega
            rw [Nat.mod_eq_of_lt h7, h6]
            unfold wrap64
            omega
        refine ⟨?_, by rw [List.all_cons, hf, i2]; rfl⟩
        show (⟨(B : Int), valF (X / 2 ^ t) ⟨(B : Int), fv, fs⟩, fs⟩ : Fld) :: upL (X / 2 ^ t / 2 ^ ((B : Int).toNat)) l = _
        rw [hv, Int.toNat_natCast, hdd, i1]
      · rw [if_neg hf] at h; cases h

theorem pack_unpack {fs : List Fld} {X : Nat} (hok : ∀ f ∈ fs, f.ok) (h : packF fs = some X) : unpackF X fs = some fs := by
  unfold packF at h
  cases hw : wdF 0 fs with
  | none => rw [hw] at h; cases h
  | some S =>
    rw [hw] at h
    have h' : pkF 0 0 fs = some X := h
    obtain ⟨b1, b2⟩ := back1 fs 0 0 X S (by decide) (by decide) hw h' hok
    obtain ⟨_, h3⟩ := pk_low fs 0 0 X S (by decide) (by decide) hw h'
    rw [Nat.pow_zero, Nat.div_one] at b1
    unfold unpackF
    rw [hw, b1, b2]
    exact if_pos (by
      show (decide (X / 2 ^ S = 0) && true) = true
      rw [Nat.div_eq_of_lt h3]
      rfl)

theorem val_mod (w : Nat) (f : Fld) (h1 : 1 ≤ f.b) (h2 : f.b ≤ 64) : uw (valF w f) % 2 ^ f.b.toNat = w % 2 ^ f.b.toNat := by
  obtain ⟨fb, fv, fs⟩ := f
  dsimp only at h1 h2
  obtain ⟨B, rfl⟩ := Int.eq_ofNat_of_zero_le (show 0 ≤ fb by omega)
  unfold valF
  dsimp only
  rw [Int.toNat_natCast]
  have hB1 : 1 ≤ B := by omega
  have hB2 : B ≤ 64 := by omega
  have hlt : w % 2 ^ B < 2 ^ B := Nat.mod_lt _ (Nat.pow_pos (by decide))
  have hs := pow_split hB2
  have hpb := pow_le64 hB2
  have hdv : 2 ^ B ∣ 18446744073709551616 := ⟨2 ^ (64 - B), hs.symm⟩
  cases fs with
  | true =>
    rw [if_pos rfl]
    unfold sgn
    split
    · have e : uw (((w % 2 ^ B : Nat) : Int) - ((2 ^ B : Nat) : Int)) = 18446744073709551616 + w % 2 ^ B - 2 ^ B := by
        unfold uw
        generalize w % 2 ^ B = m at *
        generalize 2 ^ B = Q at *
        omega
      rw [e]
      obtain ⟨q, hq⟩ := hdv
      have hq0 : 0 < q := by
        rcases Nat.eq_zero_or_pos q with h | h
        · subst h; omega
        · exact h
      rw [hq]
      have e2 : 2 ^ B * q + w % 2 ^ B - 2 ^ B = w % 2 ^ B + 2 ^ B * (q - 1) := by
        obtain ⟨r, rfl⟩ : ∃ r, q = r + 1 := ⟨q - 1, by omega⟩
        rw [Nat.mul_add, Nat.mul_one, show r + 1 - 1 = r by omega]
        omega
      rw [e2, Nat.add_mul_mod_self_left, Nat.mod_mod]
    · have e : uw ((w % 2 ^ B : Nat) : Int) = w % 2 ^ B := by
        unfold uw
        generalize w % 2 ^ B = m at *
        omega
      rw [e, Nat.mod_mod]
  | false =>
    rw [if_neg Bool.false_ne_true]
    have e : uw (wrap64 ((w % 2 ^ B : Nat) : Int)) = w % 2 ^ B := by
      unfold uw wrap64
      generalize w % 2 ^ B = m at *
      omega
    rw [e, Nat.mod_mod]

theorem back2 : ∀ (l : List Fld) (t W S : Nat), t ≤ 64 → wdF t l = some S → (upL (W / 2 ^ t) l).all fitB = true → pkF (W % 2 ^ t) t (upL (W / 2 ^ t) l) = some (W % 2 ^ S)
  | [], t, W, S, _, hw, _ => by cases hw; rfl
  | f :: l, t, W, S, ht, hw, ha => by
    unfold wdF at hw
    by_cases hc : f.b < 1 ∨ (64 : Int) - t < f.b
    · rw [if_pos hc] at hw; cases hw
    · rw [if_neg hc] at hw
      have hv := val_mod (W / 2 ^ t) f (by omega) (by omega)
      obtain ⟨B, hB⟩ : ∃ B, B = f.b.toNat := ⟨_, rfl⟩
      have hdd : W / 2 ^ t / 2 ^ B = W / 2 ^ (t + B) := by rw [Nat.div_div_eq_div_mul, Nat.pow_add]
      have hx : W % 2 ^ t < 2 ^ t := Nat.mod_lt _ (Nat.pow_pos (by decide))
      rw [← hB] at hv hw
      have ha' : (fitB ⟨f.b, valF (W / 2 ^ t) f, f.s⟩ && (upL (W / 2 ^ t / 2 ^ f.b.toNat) l).all fitB) = true := ha
      rw [Bool.and_eq_true, ← hB, hdd] at ha'
      have ih := back2 l (t + B) W S (by omega) hw ha'.2
      show pkF _ t (⟨f.b, valF (W / 2 ^ t) f, f.s⟩ :: upL (W / 2 ^ t / 2 ^ f.b.toNat) l) = _
      unfold pkF
      rw [if_pos ha'.1]
      dsimp only
      rw [← hB, hv, hdd, or_add hx]
      have e : 2 ^ t * (W / 2 ^ t % 2 ^ B) + W % 2 ^ t = W % 2 ^ (t + B) := by
        rw [Nat.pow_add, Nat.mod_mul]
        omega
      rw [e]
      exact ih

theorem unpack_pack {fs L : List Fld} {W : Nat} (h : unpackF W fs = some L) : packF L = some W := by
  unfold unpackF at h
  cases hw : wdF 0 fs with
  | none => rw [hw] at h; cases h
  | some S =>
    rw [hw] at h
    dsimp only at h
    by_cases hc : (decide (W / 2 ^ S = 0) && (upL W fs).all fitB) = true
    · rw [if_pos hc] at h
      cases h
      rw [Bool.and_eq_true] at hc
      have h0 := of_decide_eq_true hc.1
      have b := back2 fs 0 W S (by decide) hw (by rw [Nat.pow_zero, Nat.div_one]; exact hc.2)
      rw [Nat.pow_zero, Nat.mod_one, Nat.div_one] at b
      have hlt : W < 2 ^ S := by
        rcases Nat.lt_or_ge W (2 ^ S) with h | h
        · exact h
        · have := Nat.div_pos h (Nat.pow_pos (by decide)); omega
      unfold packF
      rw [wd_upL, hw]
      show pkF 0 0 (upL W fs) = some W
      rw [b, Nat.mod_eq_of_lt hlt]
    · rw [if_neg hc] at h; cases h

theorem upL_ok (l : List Fld) : ∀ (w t S : Nat), t ≤ 64 → wdF t l = some S → (∀ f ∈ l, f.ok) → ∀ g ∈ upL w l, g.ok := by
  induction l with
  | nil => intro w t S _ _ _ g hg; cases hg
  | cons f l ih =>
    intro w t S ht hw hok g hg
    unfold wdF at hw
    by_cases hc : f.b < 1 ∨ (64 : Int) - t < f.b
    · rw [if_pos hc] at hw; cases hw
    · rw [if_neg hc] at hw
      have hg' : g ∈ (⟨f.b, valF w f, f.s⟩ : Fld) :: upL (w / 2 ^ f.b.toNat) l := hg
      rcases List.mem_cons.1 hg' with rfl | h
      · exact ⟨(hok f (by simp)).1, valF_bd w f (by omega) (by omega)⟩
      · exact ih _ _ S (by omega) hw (fun x hx => hok x (by simp [hx])) g h

end Go.Proofs.YtddekakihandeaaDoor.M
