/-
  Own text: the plain mathematics of records: what is sealed is opened, what is opened was sealed, a record that is cut off is too short, and one of which a byte is turned is no record of as many bytes.
-/
import Derived.Test.YtphdbpljgilcgaaDoorPureR
namespace Go.Proofs.YtphdbpljgilcgaaDoor.M
open Go.RowKit

/-- The number in the first four bytes, the highest first. -/
def get4 (l : List Int) : Nat := (l.take 4).foldl (fun s x => s * 256 + x.toNat) 0

/-- The record with which bytes begin: its bytes, how many it has in all, the error. -/
def openR (xs : List Int) : List Int × Nat × Nat :=
  if (numR xs).2.2 ≠ 0 then ([], 0, (numR xs).2.2)
  else if 8192 < (numR xs).1 then ([], 0, 4)
  else if xs.length - (numR xs).2.1 < (numR xs).1 then ([], 0, 2)
  else if xs.length - ((numR xs).2.1 + (numR xs).1) < 4 then ([], 0, 2)
  else if get4 (xs.drop ((numR xs).2.1 + (numR xs).1)) ≠ sumN (xs.take ((numR xs).2.1 + (numR xs).1)) then ([], 0, 11)
  else ((xs.drop (numR xs).2.1).take (numR xs).1, (numR xs).2.1 + (numR xs).1 + 4, 0)

theorem get4_sum4 {s : Nat} (h : s < 4294967296) (rest : List Int) : get4 (sum4 s ++ rest) = s := by
  show (((0 * 256 + ((s / 16777216 % 256 : Nat) : Int).toNat) * 256 + ((s / 65536 % 256 : Nat) : Int).toNat) * 256 + ((s / 256 % 256 : Nat) : Int).toNat) * 256 + ((s % 256 : Nat) : Int).toNat = s
  simp only [Int.toNat_natCast]
  omega

theorem sum4_get4 {a b c d : Int} (rest : List Int) (ha : 0 ≤ a ∧ a < 256) (hb : 0 ≤ b ∧ b < 256) (hc : 0 ≤ c ∧ c < 256) (hd : 0 ≤ d ∧ d < 256) : sum4 (get4 (a :: b :: c :: d :: rest)) = [a, b, c, d] := by
  have e : get4 (a :: b :: c :: d :: rest) = ((a.toNat * 256 + b.toNat) * 256 + c.toNat) * 256 + d.toNat := by
    show (((0 * 256 + a.toNat) * 256 + b.toNat) * 256 + c.toNat) * 256 + d.toNat = _
    omega
  rw [e]
  unfold sum4
  congr 1
  · omega
  congr 1
  · omega
  congr 1
  · omega
  congr 1
  omega

theorem length_sum4 (s : Nat) : (sum4 s).length = 4 := rfl

theorem length_sealL (ys : List Int) : (sealL ys).length = (putL ys.length).length + ys.length + 4 := by
  unfold sealL
  simp only [List.length_append, length_sum4]

theorem sealL_app (ys rest : List Int) : sealL ys ++ rest = putL ys.length ++ (ys ++ (sum4 (sumN (putL ys.length ++ ys)) ++ rest)) := by
  unfold sealL
  simp only [List.append_assoc]

theorem openR_seal {ys : List Int} (hl : ys.length ≤ 8192) (rest : List Int) : openR (sealL ys ++ rest) = (ys, (sealL ys).length, 0) := by
  have hn : numR (sealL ys ++ rest) = (ys.length, (putL ys.length).length, 0) := by rw [sealL_app]; exact numR_putL (by omega) _
  have hlen : (sealL ys ++ rest).length = (putL ys.length).length + ys.length + 4 + rest.length := by rw [List.length_append, length_sealL]
  have hd1 : (sealL ys ++ rest).drop (putL ys.length).length = ys ++ (sum4 (sumN (putL ys.length ++ ys)) ++ rest) := by
    rw [sealL_app, List.drop_left]
  have hd2 : (sealL ys ++ rest).drop ((putL ys.length).length + ys.length) = sum4 (sumN (putL ys.length ++ ys)) ++ rest := by
    rw [← List.drop_drop, hd1, List.drop_left]
  have ht2 : (sealL ys ++ rest).take ((putL ys.length).length + ys.length) = putL ys.length ++ ys := by
    rw [sealL_app, ← List.append_assoc, ← List.length_append, List.take_left]
  unfold openR
  rw [hn]
  simp only
  rw [if_neg (by simp), if_neg (by omega), if_neg (by rw [hlen]; omega), if_neg (by rw [hlen]; omega), hd2, ht2, get4_sum4 (sumN_lt _), if_neg (by simp), hd1, List.take_left, length_sealL]

theorem openR_cut {ys : List Int} (hl : ys.length ≤ 8192) {t : Nat} (ht : t < (sealL ys).length) : openR ((sealL ys).take t) = ([], 0, 2) := by
  have hs : sealL ys = putL ys.length ++ (ys ++ sum4 (sumN (putL ys.length ++ ys))) := by
    have := sealL_app ys []
    simpa using this
  have hlen := length_sealL ys
  by_cases h1 : t < (putL ys.length).length
  · have hn : numR ((sealL ys).take t) = (0, 0, 2) := by
      rw [hs, List.take_append_of_le_length (by omega)]
      exact numR_cut (by omega) h1
    unfold openR
    rw [hn, if_pos (by simp)]
  · have hn : numR ((sealL ys).take t) = (ys.length, (putL ys.length).length, 0) := by
      rw [hs, List.take_append, List.take_of_length_le (by omega)]
      exact numR_putL (by omega) _
    have hl2 : ((sealL ys).take t).length = t := by rw [List.length_take]; omega
    unfold openR
    rw [hn, hl2]
    simp only
    rw [if_neg (by simp), if_neg (by omega)]
    by_cases h2 : t - (putL ys.length).length < ys.length
    · rw [if_pos h2]
    · rw [if_neg h2, if_pos (by omega)]

theorem four_of {l : List Int} (h : 4 ≤ l.length) : ∃ a b c d rest, l = a :: b :: c :: d :: rest := by
  match l, h with
  | a :: b :: c :: d :: rest, _ => exact ⟨a, b, c, d, rest, rfl⟩

theorem By.drop {xs : List Int} (h : By xs) (k : Nat) : By (xs.drop k) := fun x hx => h x (List.mem_of_mem_drop hx)

theorem openR_form {xs : List Int} (hb : By xs) (h : (openR xs).2.2 = 0) :
    ∃ d rest, openR xs = (d, (sealL d).length, 0) ∧ d.length ≤ 8192 ∧ By d ∧ xs = sealL d ++ rest := by
  unfold openR at h ⊢
  by_cases h1 : (numR xs).2.2 ≠ 0
  · rw [if_pos h1] at h
    exact absurd h h1
  · rw [if_neg h1] at h ⊢
    obtain ⟨m, hm, hn, rest, hxs⟩ := numR_form hb (Classical.not_not.1 h1)
    rw [hn] at h ⊢
    simp only at h ⊢
    by_cases h2 : 8192 < m
    · rw [if_pos h2] at h; simp at h
    · rw [if_neg h2] at h ⊢
      by_cases h3 : xs.length - (putL m).length < m
      · rw [if_pos h3] at h; simp at h
      · rw [if_neg h3] at h ⊢
        by_cases h4 : xs.length - ((putL m).length + m) < 4
        · rw [if_pos h4] at h; simp at h
        · rw [if_neg h4] at h ⊢
          by_cases h5 : get4 (xs.drop ((putL m).length + m)) ≠ sumN (xs.take ((putL m).length + m))
          · rw [if_pos h5] at h; simp at h
          · rw [if_neg h5]
            have h5' := Classical.not_not.1 h5
            have hlen : xs.length = (putL m).length + rest.length := by rw [hxs, List.length_append]
            have hd : xs.drop (putL m).length = rest := by rw [hxs, List.drop_left]
            have hdm : xs.drop ((putL m).length + m) = rest.drop m := by rw [← List.drop_drop, hd]
            have htm : xs.take ((putL m).length + m) = putL m ++ rest.take m := by
              rw [hxs, List.take_append, List.take_of_length_le (by omega)]
              congr 1
              congr 1
              omega
            rw [hd]
            have hdl : (rest.take m).length = m := by rw [List.length_take]; omega
            obtain ⟨a, b, c, d, r2, hr2⟩ := four_of (l := rest.drop m) (by rw [List.length_drop]; omega)
            have hbr : By (rest.drop m) := by rw [← hdm]; exact hb.drop _
            rw [hr2] at hbr
            have hsum : sum4 (sumN (putL m ++ rest.take m)) = [a, b, c, d] := by
              rw [← htm, ← h5', hdm, hr2]
              exact sum4_get4 r2 (hbr a (by simp)) (hbr b (by simp)) (hbr c (by simp)) (hbr d (by simp))
            refine ⟨rest.take m, r2, ?_, by omega, ?_, ?_⟩
            · rw [length_sealL, hdl]
            · intro y hy
              exact hb y (by rw [hxs]; exact List.mem_append_right _ (List.mem_of_mem_take hy))
            · rw [sealL_app, hdl, hsum, hxs]
              congr 1
              have := List.take_append_drop m rest
              rw [hr2] at this
              exact this.symm

theorem putL_len_mono (b : Nat) : ∀ a, a ≤ b → (putL a).length ≤ (putL b).length := by
  induction b using Nat.strongRecOn with
  | _ b ih =>
    intro a h
    by_cases ha : a < 128
    · have := putL_pos b
      rw [putL_small ha]
      exact this
    · rw [putL_great (m := a) (by omega), putL_great (m := b) (by omega), List.length_cons, List.length_cons]
      have := ih (b / 128) (by omega) (a / 128) (by omega)
      omega

theorem sealL_len_inj {a b : List Int} (h : (sealL a).length = (sealL b).length) : a.length = b.length := by
  rw [length_sealL, length_sealL] at h
  rcases Nat.lt_trichotomy a.length b.length with h1 | h1 | h1
  · have := putL_len_mono _ _ (Nat.le_of_lt h1); omega
  · exact h1
  · have := putL_len_mono _ _ (Nat.le_of_lt h1); omega

/-! The sum tells bytes apart that differ in one place. -/

theorem xor_ge (a : Nat) (h : a < 2147483648) : 2147483648 ≤ a ^^^ 2197175160 := by
  rcases Nat.lt_or_ge (a ^^^ 2197175160) 2147483648 with h1 | h1
  · exfalso
    have h2 : (a ^^^ 2197175160) ^^^ a < 2147483648 := Nat.xor_lt_two_pow (n := 31) h1 h
    rw [Nat.xor_comm a, Nat.xor_assoc, Nat.xor_self, Nat.xor_zero] at h2
    exact absurd h2 (by decide)
  · exact h1

theorem xor_cancel_right {a b c : Nat} (h : a ^^^ c = b ^^^ c) : a = b := by
  have h1 := congrArg (fun z => z ^^^ c) h
  simp only [Nat.xor_assoc, Nat.xor_self, Nat.xor_zero] at h1
  exact h1

theorem crcStep_inj {a b : Nat} (ha : a < 4294967296) (hb : b < 4294967296) (h : crcStep a = crcStep b) : a = b := by
  unfold crcStep at h
  by_cases h1 : a % 2 = 1
  · by_cases h2 : b % 2 = 1
    · rw [if_pos h1, if_pos h2] at h
      have := xor_cancel_right h
      omega
    · rw [if_pos h1, if_neg h2] at h
      have := xor_ge (a / 2) (by omega)
      omega
  · by_cases h2 : b % 2 = 1
    · rw [if_neg h1, if_pos h2] at h
      have := xor_ge (b / 2) (by omega)
      omega
    · rw [if_neg h1, if_neg h2] at h
      omega

theorem crcIt_inj {a b : Nat} (ha : a < 4294967296) (hb : b < 4294967296) : ∀ j, crcIt j a = crcIt j b → a = b
  | 0, h => h
  | j + 1, h => crcIt_inj ha hb j (crcStep_inj (crcIt_lt ha j) (crcIt_lt hb j) h)

theorem crcFrom_inj : ∀ {xs : List Int} {a b : Nat}, By xs → a < 4294967296 → b < 4294967296 → crcFrom a xs = crcFrom b xs → a = b
  | [], _, _, _, _, _, h => h
  | x :: xs, a, b, hx, ha, hb, h => by
    have h1 := hx x (by simp)
    have ha' := xor_lt32 ha (b := x.toNat) (by omega)
    have hb' := xor_lt32 hb (b := x.toNat) (by omega)
    have := crcFrom_inj (xs := xs) (fun y hy => hx y (by simp [hy])) (crcIt_lt ha' 8) (crcIt_lt hb' 8) h
    exact xor_cancel_right (crcIt_inj ha' hb' 8 this)

theorem crcFrom_app (c : Nat) (xs ys : List Int) : crcFrom c (xs ++ ys) = crcFrom (crcFrom c xs) ys := by
  unfold crcFrom
  rw [List.foldl_append]

theorem sumN_one {A B : List Int} {x y : Int} (hA : By A) (hB : By B) (hx : 0 ≤ x ∧ x < 256) (hy : 0 ≤ y ∧ y < 256) (h : sumN (A ++ x :: B) = sumN (A ++ y :: B)) : x = y := by
  unfold sumN at h
  have hc := crcFrom_lt hA (c := 4294967295) (by decide)
  have h1 := crcFrom_lt (By.app hA (By.cons hx hB)) (c := 4294967295) (by decide)
  have h2 := crcFrom_lt (By.app hA (By.cons hy hB)) (c := 4294967295) (by decide)
  have e : crcFrom 4294967295 (A ++ x :: B) = crcFrom 4294967295 (A ++ y :: B) := by omega
  rw [crcFrom_app, crcFrom_app] at e
  have hx' := xor_lt32 hc (b := x.toNat) (by omega)
  have hy' := xor_lt32 hc (b := y.toNat) (by omega)
  have e2 := crcFrom_inj hB (crcIt_lt hx' 8) (crcIt_lt hy' 8) e
  have e3 := crcIt_inj hx' hy' 8 e2
  rw [Nat.xor_comm _ x.toNat, Nat.xor_comm _ y.toNat] at e3
  have e4 := xor_cancel_right e3
  omega

theorem sum4_inj {a b : Nat} (ha : a < 4294967296) (hb : b < 4294967296) (h : sum4 a = sum4 b) : a = b := by
  have h1 := get4_sum4 ha []
  have h2 := get4_sum4 hb []
  rw [h] at h1
  omega

/-- A record of which one byte is another one is no record of as many bytes. -/
theorem turned {ys : List Int} (hy : By ys) {A B : List Int} {x y : Int} (hs : sealL ys = A ++ x :: B) (hne : x ≠ y) (hyb : 0 ≤ y ∧ y < 256) (h0 : (openR (A ++ y :: B)).2.2 = 0) (hn : (openR (A ++ y :: B)).2.1 = (sealL ys).length) : False := by
  have hsb := sealL_by hy
  rw [hs] at hsb
  have hA : By A := fun z hz => hsb z (by simp [hz])
  have hB : By B := fun z hz => hsb z (by simp [hz])
  have hx := hsb x (by simp)
  obtain ⟨d, rest, ho, _, _, he⟩ := openR_form (By.app hA (By.cons hyb hB)) h0
  rw [ho] at hn
  simp only at hn
  have hlen : (A ++ y :: B).length = (sealL ys).length := by rw [hs]; simp
  have hrest : rest = [] := by
    have := congrArg List.length he
    rw [hlen, List.length_append, hn] at this
    exact List.length_eq_zero_iff.1 (by omega)
  rw [hrest, List.append_nil] at he
  have hdl := sealL_len_inj hn
  -- both are the same count, some bytes, and a sum
  have e1 : A ++ x :: B = (putL ys.length ++ ys) ++ sum4 (sumN (putL ys.length ++ ys)) := hs.symm
  have e2 : A ++ y :: B = (putL ys.length ++ d) ++ sum4 (sumN (putL ys.length ++ d)) := by rw [he]; unfold sealL; rw [hdl]
  have hl1 : (putL ys.length ++ ys).length = (putL ys.length ++ d).length := by simp [hdl]
  by_cases hin : A.length < (putL ys.length ++ ys).length
  · -- the turned byte lies ahead of the sum
    obtain ⟨C, hC⟩ : ∃ C, putL ys.length ++ ys = A ++ x :: C := by
      have h1 := congrArg (List.take (putL ys.length ++ ys).length) e1
      rw [List.take_left, List.take_append, List.take_of_length_le (by omega)] at h1
      obtain ⟨k, hk⟩ : ∃ k, (putL ys.length ++ ys).length - A.length = k + 1 := ⟨_, (Nat.succ_pred_eq_of_pos (by omega)).symm⟩
      rw [hk, List.take_succ_cons] at h1
      exact ⟨_, h1.symm⟩
    have hB1 : B = C ++ sum4 (sumN (putL ys.length ++ ys)) := by
      rw [hC, List.append_assoc] at e1
      have := List.append_cancel_left e1
      simpa [hC] using this
    have hC2 : putL ys.length ++ d = A ++ y :: C := by
      have h1 := congrArg (List.take (putL ys.length ++ d).length) e2
      rw [List.take_left, ← hl1, hC, hB1] at h1
      rw [← h1, show A ++ y :: (C ++ sum4 (sumN (putL ys.length ++ ys))) = (A ++ y :: C) ++ sum4 (sumN (putL ys.length ++ ys)) by simp]
      rw [show (A ++ x :: C).length = (A ++ y :: C).length by simp, List.take_left]
    have hB2 : B = C ++ sum4 (sumN (putL ys.length ++ d)) := by
      rw [hC2, List.append_assoc] at e2
      have := List.append_cancel_left e2
      simpa [hC2] using this
    have hss := List.append_cancel_left (hB1.symm.trans hB2)
    have hsn := sum4_inj (sumN_lt _) (sumN_lt _) hss
    rw [hC, hC2] at hsn
    have hCb : By C := fun z hz => hB z (by rw [hB1]; exact List.mem_append_left _ hz)
    exact hne (sumN_one hA hCb hx hyb hsn)
  · -- it lies in the sum: then the bytes ahead are the same, and so is the sum
    have hA1 : A.take (putL ys.length ++ ys).length = putL ys.length ++ ys := by
      have h1 := congrArg (List.take (putL ys.length ++ ys).length) e1
      rw [List.take_left, List.take_append_of_le_length (by omega)] at h1
      exact h1
    have hA2 : A.take (putL ys.length ++ ys).length = putL ys.length ++ d := by
      have h1 := congrArg (List.take (putL ys.length ++ ys).length) e2
      rw [hl1, List.take_left, ← hl1, List.take_append_of_le_length (by omega)] at h1
      exact h1
    have hsame : putL ys.length ++ ys = putL ys.length ++ d := hA1.symm.trans hA2
    rw [← hsame] at e2
    have := e1.trans e2.symm
    have := List.append_cancel_left this
    exact hne (List.cons.inj this).1

end Go.Proofs.YtphdbpljgilcgaaDoor.M
