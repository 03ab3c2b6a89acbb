/-
  Own text: contracts of the program's records (putSum, Seal, the errors of chunk and Open) and of the reference's Seal.
  Own text: the plain mathematics of reading numbers and records: what is put is read, what is read was put, a record that is cut off, a record of which one byte is turned.
  Own text: the plain mathematics of records: what is sealed is opened, what is opened was sealed, a record that is cut off is too short, and one of which a byte is turned is no record of as many bytes.
  Own text: contracts of the program's chunk, getSum and Open.
-/
import Derived.Test.YtpjhadaiodnnaaaRef
import Derived.Test.YtpjhadaiodnnaaaNum
namespace Go.Proofs.Ytpjhadaiodnnaaa.M
open Go.ChangeShapes Go.WideShapes Go.ChangeAt Go.RowKit

/-- Four bytes, the highest first. -/
def sum4 (s : Nat) : List Int := [((s / 16777216 % 256 : Nat) : Int), ((s / 65536 % 256 : Nat) : Int), ((s / 256 % 256 : Nat) : Int), ((s % 256 : Nat) : Int)]

/-- The record of bytes. -/
def sealL (ys : List Int) : List Int := (putL ys.length ++ ys) ++ sum4 (sumN (putL ys.length ++ ys))

theorem sum4_by (s : Nat) : By (sum4 s) := By.cons (by omega) (By.cons (by omega) (By.cons (by omega) (By.cons (by omega) By.nil)))

theorem sealL_by {ys : List Int} (h : By ys) : By (sealL ys) := By.app (By.app (putL_by _) h) (sum4_by _)

theorem Rd.list (k : IntKind) (w : World) (e : TypeId) (zs : List Int) : Rd k (w.alloc (.cells (zs.map (Value.int k)).toArray e)) (some ⟨w.heap.size, 0, none⟩) zs.length zs.length zs := by
  refine ⟨rfl, Nat.le_refl _, (fun h => by cases h), fun _ => ⟨w.heap.size, 0, rfl, fun i hi => ?_⟩⟩
  rw [cell_of_row _ w.heap.size (0 + i) _ e (0, 0) (heap_alloc_new w _)]
  rw [Nat.zero_add, List.getElem?_toArray, List.getElem?_map, List.getD_eq_getElem?_getD, List.getElem?_eq_getElem hi]
  rfl

theorem Rd.four (k : IntKind) (w : World) (e : TypeId) (a b c d : Int) : Rd k (w.alloc (.cells #[.int k a, .int k b, .int k c, .int k d] e)) (some ⟨w.heap.size, 0, none⟩) 4 4 [a, b, c, d] := Rd.list k w e [a, b, c, d]

theorem sum4_eq (s : Nat) (h : s < 4294967296) : sum4 s = [(s : Int) / 16777216, (s : Int) / 65536 % 256, (s : Int) / 256 % 256, (s : Int) % 256] := by
  unfold sum4
  rw [show ((s / 16777216 % 256 : Nat) : Int) = (s : Int) / 16777216 by omega]
  rfl

set_option maxRecDepth 20000 in
theorem putSum_any (B : Nat) (p : Option Addr) (n c : Nat) (xs : List Int) (w : World) (ho : Ow .u8 5 w B p n c xs) (hx : By xs) (hB : B ≤ w.heap.size) (hn : n ≤ 70368744177664) :
    Calls Try.prog 87 #[.slice p n c] w fun e w' => ∃ p' c', e = .returned (.slice p' (n + 4) c') ∧ Ow .u8 5 w' B p' (n + 4) c' (xs ++ sum4 (sumN xs)) ∧ Below B w w' := by
  have hs := sumN_lt xs
  have hsum := sum_any p n c xs w ho.rd hx (by omega)
  have e4 : Hid (sum4 (sumN xs) = [(sumN xs : Int) / 16777216, (sumN xs : Int) / 65536 % 256, (sumN xs : Int) / 256 % 256, (sumN xs : Int) % 256]) := sum4_eq _ hs
  generalize sumN xs = s at hs hsum e4
  clear hx
  go_enter Try.func87, Try.ntmps87
  go_wp2_with (first | (go_at_call 104; refine hsum.mono ?_; rintro e w1 ⟨rfl, rfl⟩; clear hsum) | (at_builtin; refine app8 _ rfl _ _ rfl B _ _ _ xs rfl (ho.below (below_alloc _ _)) _ _ _ _ rfl (Rd.four _ _ _ _ _ _ _) ?d1 ?d3 ?_))
  case d1 => omega
  case d3 => simp; omega
  intro p3 c3 w3 ho3 hb3
  have ho4 : Ow .u8 5 w3 B p3 (n + 4) c3 (xs ++ sum4 s) := by rw [e4.out]; exact ho3
  have hb4 := ((below_alloc _ _).mono hB).trans hb3
  clear ho3 hb3 e4
  go_wp2
  go_ret
  exact ⟨p3, c3, rfl, ho4, hb4⟩

set_option maxRecDepth 20000 in
theorem seal_any (p : Option Addr) (n c : Nat) (xs : List Int) (w : World) (hr : Rd .u8 w p n c xs) (hx : By xs) (hn : n ≤ 8192) :
    Calls Try.prog 60 #[.slice p n c] w fun e w' => ∃ p' n' c', e = .returned (.tuple #[.slice p' n' c', .int .i64 0]) ∧ Ow .u8 5 w' w.heap.size p' n' c' (sealL xs) ∧ Below w.heap.size w w' := by
  have hpl := putL_len (m := n) (by omega)
  have hq := putBytes_any none 0 0 [] p n c xs w (Rd.empty _ _ _ _ (fun _ => rfl)) hr (by omega) (by omega)
  simp only [Nat.zero_add, List.nil_append] at hq
  have hlen := hr.len
  have HL : Hid (xs.length = n) := hlen
  have hby : By (putL n ++ xs) := By.app (putL_by _) hx
  clear hr hx hlen
  go_enter Try.func60, Try.ntmps60
  go_wp2_with (first | (go_at_call 86; refine hq.mono ?_; rintro e w1 ⟨p1, c1, rfl, ho1, hb1⟩; have hps := putSum_any w.heap.size p1 _ c1 _ w1 ho1 hby hb1.size (by omega); clear hq ho1) | (go_at_call 87; refine hps.mono ?_; rintro e w2 ⟨p2, c2, rfl, ho2, hb2⟩))
  have ho3 : Ow .u8 5 w2 w.heap.size p2 ((putL n).length + n + 4) c2 (sealL xs) := by
    unfold sealL
    rw [HL.out]
    exact ho2
  have hb3 := hb1.trans hb2
  clear ho2 hb1 hb2 hps
  go_ret2
  exact ⟨p2, _, c2, rfl, ho3, hb3⟩

set_option maxRecDepth 20000 in
theorem seal_long (p : Option Addr) (n c : Nat) (w : World) (hn : 8192 < n) :
    Calls Try.prog 60 #[.slice p n c] w fun e w' => e = .returned (.tuple #[.slice none 0 0, .int .i64 4]) ∧ w' = w := by
  go_enter Try.func60, Try.ntmps60
  go_wp2
  go_ret2
  exact ⟨rfl, rfl⟩

set_option maxRecDepth 20000 in
theorem rseal_long (p : Option Addr) (n c : Nat) (w : World) (hn : 8192 < n) :
    Calls Try.prog 76 #[.slice p n c] w fun e w' => e = .returned (.tuple #[.slice none 0 0, .int .i64 4]) ∧ w' = w := by
  go_enter Try.func76, Try.ntmps76
  go_wp2
  go_ret2
  exact ⟨rfl, rfl⟩

set_option maxRecDepth 20000 in
theorem rseal_any (p : Option Addr) (n c : Nat) (xs : List Int) (w : World) (hr : Rd .u8 w p n c xs) (hx : By xs) (hn : n ≤ 8192) :
    Calls Try.prog 76 #[.slice p n c] w fun e w' => ∃ p' n' c', e = .returned (.tuple #[.slice p' n' c', .int .i64 0]) ∧ Ow .u8 5 w' w.heap.size p' n' c' (sealL xs) ∧ Below w.heap.size w w' := by
  have hpl := putL_len (m := n) (by omega)
  have hq := rbytes_any none 0 0 [] p n c xs w (Rd.empty _ _ _ _ (fun _ => rfl)) hr (by omega) (by omega)
  simp only [Nat.zero_add, List.nil_append] at hq
  have hlen := hr.len
  have HL : Hid (xs.length = n) := hlen
  have hby : By (putL n ++ xs) := By.app (putL_by _) hx
  have hs := sumN_lt (putL n ++ xs)
  have e4 : Hid (sum4 (sumN (putL n ++ xs)) = [(sumN (putL n ++ xs) : Int) / 16777216, (sumN (putL n ++ xs) : Int) / 65536 % 256, (sumN (putL n ++ xs) : Int) / 256 % 256, (sumN (putL n ++ xs) : Int) % 256]) := sum4_eq _ hs
  clear hr hx hlen
  go_enter Try.func76, Try.ntmps76
  go_wp2_with (first | (go_at_call 97; refine hq.mono ?_; rintro e w1 ⟨p1, c1, rfl, ho1, hb1⟩; have hsum := rsum_any _ _ _ _ w1 ho1.rd hby (by omega); clear hq) | (go_at_call 99; refine hsum.mono ?_; rintro e w2 ⟨rfl, hw2⟩; subst hw2; clear hsum) | (at_builtin; refine app8 _ rfl _ _ rfl w.heap.size _ _ _ _ rfl (ho1.below (below_alloc _ _)) _ _ _ _ rfl (Rd.four _ _ _ _ _ _ _) ?d1 ?d3 ?_))
  case d1 => omega
  case d3 => have := hb1.size; simp; omega
  intro p3 c3 w3 ho3 hb3
  have ho4 : Ow .u8 5 w3 w.heap.size p3 ((putL n).length + n + 4) c3 (sealL xs) := by
    unfold sealL
    rw [HL.out, e4.out, List.append_assoc]
    exact ho3
  have hb4 := (hb1.trans ((below_alloc _ _).mono hb1.size)).trans hb3
  clear ho3 hb3 e4 hb1 ho1
  go_wp2
  go_ret2
  exact ⟨p3, _, c3, rfl, ho4, hb4⟩

set_option maxRecDepth 20000 in
/-- Where there is no number, there is no chunk. -/
theorem chunk_err (p : Option Addr) (n c : Nat) (xs : List Int) (most : Int) (w : World) (hr : Rd .u8 w p n c xs) (hx : By xs) (hn : n ≤ 1099511627776) (he : (numR xs).2.2 ≠ 0) :
    Calls Try.prog 94 #[.slice p n c, .int .i64 most] w fun e w' => e = .returned (.tuple #[.slice none 0 0, .int .i64 0, .int .i64 (numR xs).2.2]) ∧ w' = w := by
  have hq := number_any p n c xs w hr hx hn
  generalize (numR xs).1 = a at hq
  generalize (numR xs).2.1 = b at hq
  generalize (numR xs).2.2 = d at hq he ⊢
  have hd : ((d : Int) != 0) = true := by simp; omega
  clear hr hx he
  go_enter Try.func94, Try.ntmps94
  go_wp2_with (go_at_call 92; refine hq.mono ?_; rintro e w1 ⟨rfl, hw⟩; subst hw)
  go_ret3
  exact ⟨rfl, rfl⟩

set_option maxRecDepth 20000 in
theorem open_err (p : Option Addr) (n c : Nat) (xs : List Int) (w : World) (hr : Rd .u8 w p n c xs) (hx : By xs) (hn : n ≤ 1099511627776) (he : (numR xs).2.2 ≠ 0) :
    Calls Try.prog 89 #[.slice p n c] w fun e w' => e = .returned (.tuple #[.slice none 0 0, .int .i64 0, .int .i64 (numR xs).2.2]) ∧ w' = w := by
  have hq := chunk_err p n c xs 8192 w hr hx hn he
  generalize (numR xs).2.2 = d at hq he ⊢
  have hd : ((d : Int) != 0) = true := by simp; omega
  clear hr hx he
  go_enter Try.func89, Try.ntmps89
  go_wp2_with (go_at_call 94; refine hq.mono ?_; rintro e w1 ⟨rfl, hw⟩; subst hw)
  go_ret3
  exact ⟨rfl, rfl⟩

end Go.Proofs.Ytpjhadaiodnnaaa.M

namespace Go.Proofs.Ytpjhadaiodnnaaa.M
open Go.RowKit

theorem pow7_succ (i : Nat) : 2 ^ (7 * (i + 1)) = 128 * 2 ^ (7 * i) := by rw [show 7 * (i + 1) = 7 * i + 7 by omega, Nat.pow_add, Nat.mul_comm]

theorem pow7_pos (i : Nat) : 0 < 2 ^ (7 * i) := Nat.pow_pos (by decide)

theorem mul_split (m p : Nat) : m * p = m % 128 * p + m / 128 * (128 * p) := by
  have h := Nat.mod_add_div m 128
  have e : m * p = (m % 128 + 128 * (m / 128)) * p := by rw [h]
  rw [e, Nat.add_mul, Nat.mul_assoc, Nat.mul_left_comm]

/-- The number has room at place i. -/
theorem room_small {i m : Nat} (hi : i ≤ 9) (hm : m * 2 ^ (7 * i) < 18446744073709551616) : i = 9 → m ≤ 1 := by
  rintro rfl
  have e : (2 : Nat) ^ (7 * 9) = 9223372036854775808 := by decide
  rw [e] at hm
  omega

theorem room_great {i m : Nat} (hi : i ≤ 9) (hm : m * 2 ^ (7 * i) < 18446744073709551616) (h : 128 ≤ m) : i < 9 := by
  rcases Nat.lt_or_ge i 9 with h1 | h1
  · exact h1
  · have := room_small hi hm (by omega)
    omega

theorem toNat128 (m : Nat) : (((128 + m % 128 : Nat) : Int)).toNat = 128 + m % 128 := rfl

theorem numG_putL (m : Nat) : ∀ (i acc : Nat) (rest : List Int), i ≤ 9 → m * 2 ^ (7 * i) < 18446744073709551616 → (0 < m ∨ i = 0) →
    numG i acc (putL m ++ rest) = (acc + m * 2 ^ (7 * i), i + (putL m).length, 0) := by
  induction m using Nat.strongRecOn with
  | _ m ih =>
    intro i acc rest hi hm h0
    by_cases h : m < 128
    · rw [putL_small h]
      have h9 := room_small hi hm
      have e : ((m : Int)).toNat = m := rfl
      simp only [List.cons_append, List.nil_append, numG, e, List.length_cons, List.length_nil]
      rw [if_neg (by omega), if_neg (by omega), if_pos h, show m % 128 = m by omega]
    · rw [putL_great (by omega)]
      have h9 := room_great hi hm (by omega)
      simp only [List.cons_append, numG, toNat128, List.length_cons]
      rw [if_neg (by omega), if_neg (by omega), if_neg (by omega), show (128 + m % 128) % 128 = m % 128 by omega]
      have hs := mul_split m (2 ^ (7 * i))
      rw [ih (m / 128) (by omega) (i + 1) _ rest (by omega) (by rw [pow7_succ]; omega) (Or.inl (by omega)), pow7_succ]
      rw [show acc + m % 128 * 2 ^ (7 * i) + m / 128 * (128 * 2 ^ (7 * i)) = acc + m * 2 ^ (7 * i) by omega, show i + 1 + (putL (m / 128)).length = i + ((putL (m / 128)).length + 1) by omega]

theorem numR_putL {m : Nat} (h : m < 18446744073709551616) (rest : List Int) : numR (putL m ++ rest) = (m, (putL m).length, 0) := by
  unfold numR
  rw [numG_putL m 0 0 rest (by decide) (by simpa using h) (Or.inr rfl)]
  simp

theorem numG_cut (m : Nat) : ∀ (i acc t : Nat), i ≤ 9 → m * 2 ^ (7 * i) < 18446744073709551616 → t < (putL m).length → numG i acc ((putL m).take t) = (0, 0, 2) := by
  induction m using Nat.strongRecOn with
  | _ m ih =>
    intro i acc t hi hm ht
    by_cases h : m < 128
    · rw [putL_small h] at ht ⊢
      obtain rfl : t = 0 := by simpa using ht
      rfl
    · rw [putL_great (by omega)] at ht ⊢
      have h9 := room_great hi hm (by omega)
      cases t with
      | zero => rfl
      | succ t =>
        simp only [List.take_succ_cons, numG, toNat128]
        rw [if_neg (by omega), if_neg (by omega), if_neg (by omega)]
        have hs := mul_split m (2 ^ (7 * i))
        exact ih (m / 128) (by omega) (i + 1) _ t (by omega) (by rw [pow7_succ]; omega) (by simpa using ht)

theorem numR_cut {m t : Nat} (h : m < 18446744073709551616) (ht : t < (putL m).length) : numR ((putL m).take t) = (0, 0, 2) :=
  numG_cut m 0 0 t (by decide) (by simpa using h) ht

/-- Past the tenth byte there is no number. -/
theorem numG_past : ∀ (xs : List Int) (i acc : Nat), By xs → 9 < i → (numG i acc xs).2.2 ≠ 0
  | [], i, acc, _, _ => by simp [numG]
  | c :: r, i, acc, hb, hi => by
    have hc := hb c (by simp)
    simp only [numG]
    by_cases h1 : 0 < c.toNat % 128
    · rw [if_pos (Or.inr ⟨hi, h1⟩)]; decide
    · rw [if_neg (by omega)]
      by_cases h2 : c.toNat = 0
      · rw [if_pos ⟨h2, by omega⟩]; decide
      · rw [if_neg (by omega), if_neg (by omega)]
        exact numG_past r (i + 1) _ (fun y hy => hb y (by simp [hy])) (by omega)

theorem word_split {i : Nat} (h : i ≤ 8) : 18446744073709551616 = 128 * 2 ^ (7 * i) * 2 ^ (57 - 7 * i) := by
  rw [← pow7_succ, ← Nat.pow_add, show 7 * (i + 1) + (57 - 7 * i) = 64 by omega]

theorem numG_form : ∀ (xs : List Int) (i acc : Nat), By xs → i ≤ 9 → (numG i acc xs).2.2 = 0 →
    ∃ m, m * 2 ^ (7 * i) < 18446744073709551616 ∧ (0 < m ∨ i = 0) ∧ numG i acc xs = (acc + m * 2 ^ (7 * i), i + (putL m).length, 0) ∧ ∃ rest, xs = putL m ++ rest
  | [], i, acc, _, _, h => by simp [numG] at h
  | c :: r, i, acc, hb, hi, h => by
    have hc := hb c (by simp)
    simp only [numG] at h ⊢
    by_cases h1 : (i = 9 ∧ 1 < c.toNat % 128) ∨ (9 < i ∧ 0 < c.toNat % 128)
    · rw [if_pos h1] at h; simp at h
    · rw [if_neg h1] at h ⊢
      by_cases h2 : c.toNat = 0 ∧ 0 < i
      · rw [if_pos h2] at h; simp at h
      · rw [if_neg h2] at h ⊢
        by_cases h3 : c.toNat < 128
        · rw [if_pos h3]
          have hsh := shift_lt (k := i) (l := c.toNat % 128) hi (by omega) (by omega)
          have e : c.toNat % 128 = c.toNat := by omega
          rw [e] at hsh ⊢
          have ec : ((c.toNat : Nat) : Int) = c := by omega
          refine ⟨c.toNat, by omega, by omega, ?_, r, ?_⟩
          · rw [putL_small h3]; rfl
          · rw [putL_small h3, ec]; rfl
        · rw [if_neg h3] at h ⊢
          by_cases h9 : i < 9
          · obtain ⟨m, hm1, hm2, hm3, rest, hm4⟩ := numG_form r (i + 1) _ (fun y hy => hb y (by simp [hy])) (by omega) h
            have hm0 : 0 < m := by omega
            have hs := mul_split (c.toNat % 128 + 128 * m) (2 ^ (7 * i))
            have d1 : (c.toNat % 128 + 128 * m) % 128 = c.toNat % 128 := by omega
            have d2 : (c.toNat % 128 + 128 * m) / 128 = m := by omega
            rw [d1, d2] at hs
            have hg : putL (c.toNat % 128 + 128 * m) = c :: putL m := by
              rw [putL_great (by omega), d1, d2]
              congr 1
              omega
            rw [pow7_succ] at hm1 hm3
            refine ⟨c.toNat % 128 + 128 * m, ?_, Or.inl (by omega), ?_, rest, ?_⟩
            · have hlt : c.toNat % 128 * 2 ^ (7 * i) < 128 * 2 ^ (7 * i) := Nat.mul_lt_mul_of_pos_right (by omega) (pow7_pos i)
              have hd := word_split (i := i) (by omega)
              rw [hs]
              generalize hQ : 128 * 2 ^ (7 * i) = Q at hm1 hlt hd ⊢
              generalize hT : 2 ^ (57 - 7 * i) = T at hd
              rw [hd, Nat.mul_comm m Q] at hm1
              have : m < T := Nat.lt_of_mul_lt_mul_left hm1
              have h2 : Q * (m + 1) ≤ Q * T := Nat.mul_le_mul (Nat.le_refl _) this
              rw [Nat.mul_add, Nat.mul_one] at h2
              rw [Nat.mul_comm m Q]
              omega
            · rw [hm3, hg, hs, List.length_cons]
              rw [show acc + c.toNat % 128 * 2 ^ (7 * i) + m * (128 * 2 ^ (7 * i)) = acc + (c.toNat % 128 * 2 ^ (7 * i) + m * (128 * 2 ^ (7 * i))) by omega, show i + 1 + (putL m).length = i + ((putL m).length + 1) by omega]
            · rw [hg, hm4]; rfl
          · exact absurd h (numG_past r (i + 1) _ (fun y hy => hb y (by simp [hy])) (by omega))

theorem numR_form {xs : List Int} (hb : By xs) (h : (numR xs).2.2 = 0) : ∃ m, m < 18446744073709551616 ∧ numR xs = (m, (putL m).length, 0) ∧ ∃ rest, xs = putL m ++ rest := by
  obtain ⟨m, h1, _, h3, h4⟩ := numG_form xs 0 0 hb (by decide) h
  refine ⟨m, by simpa using h1, ?_, h4⟩
  unfold numR
  rw [h3]; simp

end Go.Proofs.Ytpjhadaiodnnaaa.M

namespace Go.Proofs.Ytpjhadaiodnnaaa.M
open Go.RowKit

/-- The number in the first four bytes, the highest first. -/
def get4 (l : List Int) : Nat := (l.take 4).foldl (fun s x => s * 256 + x.toNat) 0

/-- The record with which bytes begin: its bytes, how many it has in all, the error. -/
def openR (xs : List Int) : List Int × Nat × Nat :=
  if (numR xs).2.2 ≠ 0 then ([], 0, (numR xs).2.2)
  else if 8192 < (numR xs).1 then ([], 0, 4)
  else if xs.length - (numR xs).2.1 < (numR xs).1 then ([], 0, 2)
  else if xs.length - ((numR xs).2.1 + (numR xs).1) < 4 then ([], 0, 2)
  else if get4 (xs.drop ((numR xs).2.1 + (numR xs).1)) ≠ sumN (xs.take ((numR xs).2.1 + (numR xs).1)) then ([], 0, 11)
  else ((xs.drop (numR xs).2.1).take (numR xs).1, (numR xs).2.1 + (numR xs).1 + 4, 0)

theorem get4_sum4 {s : Nat} (h : s < 4294967296) (rest : List Int) : get4 (sum4 s ++ rest) = s := by
  show (((0 * 256 + ((s / 16777216 % 256 : Nat) : Int).toNat) * 256 + ((s / 65536 % 256 : Nat) : Int).toNat) * 256 + ((s / 256 % 256 : Nat) : Int).toNat) * 256 + ((s % 256 : Nat) : Int).toNat = s
  simp only [Int.toNat_natCast]
  omega

theorem sum4_get4 {a b c d : Int} (rest : List Int) (ha : 0 ≤ a ∧ a < 256) (hb : 0 ≤ b ∧ b < 256) (hc : 0 ≤ c ∧ c < 256) (hd : 0 ≤ d ∧ d < 256) : sum4 (get4 (a :: b :: c :: d :: rest)) = [a, b, c, d] := by
  have e : get4 (a :: b :: c :: d :: rest) = ((a.toNat * 256 + b.toNat) * 256 + c.toNat) * 256 + d.toNat := by
    show (((0 * 256 + a.toNat) * 256 + b.toNat) * 256 + c.toNat) * 256 + d.toNat = _
    omega
  rw [e]
  unfold sum4
  congr 1
  · omega
  congr 1
  · omega
  congr 1
  · omega
  congr 1
  omega

theorem length_sum4 (s : Nat) : (sum4 s).length = 4 := rfl

theorem length_sealL (ys : List Int) : (sealL ys).length = (putL ys.length).length + ys.length + 4 := by
  unfold sealL
  simp only [List.length_append, length_sum4]

theorem sealL_app (ys rest : List Int) : sealL ys ++ rest = putL ys.length ++ (ys ++ (sum4 (sumN (putL ys.length ++ ys)) ++ rest)) := by
  unfold sealL
  simp only [List.append_assoc]

theorem openR_seal {ys : List Int} (hl : ys.length ≤ 8192) (rest : List Int) : openR (sealL ys ++ rest) = (ys, (sealL ys).length, 0) := by
  have hn : numR (sealL ys ++ rest) = (ys.length, (putL ys.length).length, 0) := by rw [sealL_app]; exact numR_putL (by omega) _
  have hlen : (sealL ys ++ rest).length = (putL ys.length).length + ys.length + 4 + rest.length := by rw [List.length_append, length_sealL]
  have hd1 : (sealL ys ++ rest).drop (putL ys.length).length = ys ++ (sum4 (sumN (putL ys.length ++ ys)) ++ rest) := by
    rw [sealL_app, List.drop_left]
  have hd2 : (sealL ys ++ rest).drop ((putL ys.length).length + ys.length) = sum4 (sumN (putL ys.length ++ ys)) ++ rest := by
    rw [← List.drop_drop, hd1, List.drop_left]
  have ht2 : (sealL ys ++ rest).take ((putL ys.length).length + ys.length) = putL ys.length ++ ys := by
    rw [sealL_app, ← List.append_assoc, ← List.length_append, List.take_left]
  unfold openR
  rw [hn]
  simp only
  rw [if_neg (by simp), if_neg (by omega), if_neg (by rw [hlen]; omega), if_neg (by rw [hlen]; omega), hd2, ht2, get4_sum4 (sumN_lt _), if_neg (by simp), hd1, List.take_left, length_sealL]

theorem openR_cut {ys : List Int} (hl : ys.length ≤ 8192) {t : Nat} (ht : t < (sealL ys).length) : openR ((sealL ys).take t) = ([], 0, 2) := by
  have hs : sealL ys = putL ys.length ++ (ys ++ sum4 (sumN (putL ys.length ++ ys))) := by
    have := sealL_app ys []
    simpa using this
  have hlen := length_sealL ys
  by_cases h1 : t < (putL ys.length).length
  · have hn : numR ((sealL ys).take t) = (0, 0, 2) := by
      rw [hs, List.take_append_of_le_length (by omega)]
      exact numR_cut (by omega) h1
    unfold openR
    rw [hn, if_pos (by simp)]
  · have hn : numR ((sealL ys).take t) = (ys.length, (putL ys.length).length, 0) := by
      rw [hs, List.take_append, List.take_of_length_le (by omega)]
      exact numR_putL (by omega) _
    have hl2 : ((sealL ys).take t).length = t := by rw [List.length_take]; omega
    unfold openR
    rw [hn, hl2]
    simp only
    rw [if_neg (by simp), if_neg (by omega)]
    by_cases h2 : t - (putL ys.length).length < ys.length
    · rw [if_pos h2]
    · rw [if_neg h2, if_pos (by omega)]

theorem four_of {l : List Int} (h : 4 ≤ l.length) : ∃ a b c d rest, l = a :: b :: c :: d :: rest := by
  match l, h with
  | a :: b :: c :: d :: rest, _ => exact ⟨a, b, c, d, rest, rfl⟩

theorem By.drop {xs : List Int} (h : By xs) (k : Nat) : By (xs.drop k) := fun x hx => h x (List.mem_of_mem_drop hx)

theorem openR_form {xs : List Int} (hb : By xs) (h : (openR xs).2.2 = 0) :
    ∃ d rest, openR xs = (d, (sealL d).length, 0) ∧ d.length ≤ 8192 ∧ By d ∧ xs = sealL d ++ rest := by
  unfold openR at h ⊢
  by_cases h1 : (numR xs).2.2 ≠ 0
  · rw [if_pos h1] at h
    exact absurd h h1
  · rw [if_neg h1] at h ⊢
    obtain ⟨m, hm, hn, rest, hxs⟩ := numR_form hb (Classical.not_not.1 h1)
    rw [hn] at h ⊢
    simp only at h ⊢
    by_cases h2 : 8192 < m
    · rw [if_pos h2] at h; simp at h
    · rw [if_neg h2] at h ⊢
      by_cases h3 : xs.length - (putL m).length < m
      · rw [if_pos h3] at h; simp at h
      · rw [if_neg h3] at h ⊢
        by_cases h4 : xs.length - ((putL m).length + m) < 4
        · rw [if_pos h4] at h; simp at h
        · rw [if_neg h4] at h ⊢
          by_cases h5 : get4 (xs.drop ((putL m).length + m)) ≠ sumN (xs.take ((putL m).length + m))
          · rw [if_pos h5] at h; simp at h
          · rw [if_neg h5]
            have h5' := Classical.not_not.1 h5
            have hlen : xs.length = (putL m).length + rest.length := by rw [hxs, List.length_append]
            have hd : xs.drop (putL m).length = rest := by rw [hxs, List.drop_left]
            have hdm : xs.drop ((putL m).length + m) = rest.drop m := by rw [← List.drop_drop, hd]
            have htm : xs.take ((putL m).length + m) = putL m ++ rest.take m := by
              rw [hxs, List.take_append, List.take_of_length_le (by omega)]
              congr 1
              congr 1
              omega
            rw [hd]
            have hdl : (rest.take m).length = m := by rw [List.length_take]; omega
            obtain ⟨a, b, c, d, r2, hr2⟩ := four_of (l := rest.drop m) (by rw [List.length_drop]; omega)
            have hbr : By (rest.drop m) := by rw [← hdm]; exact hb.drop _
            rw [hr2] at hbr
            have hsum : sum4 (sumN (putL m ++ rest.take m)) = [a, b, c, d] := by
              rw [← htm, ← h5', hdm, hr2]
              exact sum4_get4 r2 (hbr a (by simp)) (hbr b (by simp)) (hbr c (by simp)) (hbr d (by simp))
            refine ⟨rest.take m, r2, ?_, by omega, ?_, ?_⟩
            · rw [length_sealL, hdl]
            · intro y hy
              exact hb y (by rw [hxs]; exact List.mem_append_right _ (List.mem_of_mem_take hy))
            · rw [sealL_app, hdl, hsum, hxs]
              congr 1
              have := List.take_append_drop m rest
              rw [hr2] at this
              exact this.symm

theorem putL_len_mono (b : Nat) : ∀ a, a ≤ b → (putL a).length ≤ (putL b).length := by
  induction b using Nat.strongRecOn with
  | _ b ih =>
    intro a h
    by_cases ha : a < 128
    · have := putL_pos b
      rw [putL_small ha]
      exact this
    · rw [putL_great (m := a) (by omega), putL_great (m := b) (by omega), List.length_cons, List.length_cons]
      have := ih (b / 128) (by omega) (a / 128) (by omega)
      omega

theorem sealL_len_inj {a b : List Int} (h : (sealL a).length = (sealL b).length) : a.length = b.length := by
  rw [length_sealL, length_sealL] at h
  rcases Nat.lt_trichotomy a.length b.length with h1 | h1 | h1
  · have := putL_len_mono _ _ (Nat.le_of_lt h1); omega
  · exact h1
  · have := putL_len_mono _ _ (Nat.le_of_lt h1); omega

/-! The sum tells bytes apart that differ in one place. -/

theorem xor_ge (a : Nat) (h : a < 2147483648) : 2147483648 ≤ a ^^^ 2197175160 := by
  rcases Nat.lt_or_ge (a ^^^ 2197175160) 2147483648 with h1 | h1
  · exfalso
    have h2 : (a ^^^ 2197175160) ^^^ a < 2147483648 := Nat.xor_lt_two_pow (n := 31) h1 h
    rw [Nat.xor_comm a, Nat.xor_assoc, Nat.xor_self, Nat.xor_zero] at h2
    exact absurd h2 (by decide)
  · exact h1

theorem xor_cancel_right {a b c : Nat} (h : a ^^^ c = b ^^^ c) : a = b := by
  have h1 := congrArg (fun z => z ^^^ c) h
  simp only [Nat.xor_assoc, Nat.xor_self, Nat.xor_zero] at h1
  exact h1

theorem crcStep_inj {a b : Nat} (ha : a < 4294967296) (hb : b < 4294967296) (h : crcStep a = crcStep b) : a = b := by
  unfold crcStep at h
  by_cases h1 : a % 2 = 1
  · by_cases h2 : b % 2 = 1
    · rw [if_pos h1, if_pos h2] at h
      have := xor_cancel_right h
      omega
    · rw [if_pos h1, if_neg h2] at h
      have := xor_ge (a / 2) (by omega)
      omega
  · by_cases h2 : b % 2 = 1
    · rw [if_neg h1, if_pos h2] at h
      have := xor_ge (b / 2) (by omega)
      omega
    · rw [if_neg h1, if_neg h2] at h
      omega

theorem crcIt_inj {a b : Nat} (ha : a < 4294967296) (hb : b < 4294967296) : ∀ j, crcIt j a = crcIt j b → a = b
  | 0, h => h
  | j + 1, h => crcIt_inj ha hb j (crcStep_inj (crcIt_lt ha j) (crcIt_lt hb j) h)

theorem crcFrom_inj : ∀ {xs : List Int} {a b : Nat}, By xs → a < 4294967296 → b < 4294967296 → crcFrom a xs = crcFrom b xs → a = b
  | [], _, _, _, _, _, h => h
  | x :: xs, a, b, hx, ha, hb, h => by
    have h1 := hx x (by simp)
    have ha' := xor_lt32 ha (b := x.toNat) (by omega)
    have hb' := xor_lt32 hb (b := x.toNat) (by omega)
    have := crcFrom_inj (xs := xs) (fun y hy => hx y (by simp [hy])) (crcIt_lt ha' 8) (crcIt_lt hb' 8) h
    exact xor_cancel_right (crcIt_inj ha' hb' 8 this)

theorem crcFrom_app (c : Nat) (xs ys : List Int) : crcFrom c (xs ++ ys) = crcFrom (crcFrom c xs) ys := by
  unfold crcFrom
  rw [List.foldl_append]

theorem sumN_one {A B : List Int} {x y : Int} (hA : By A) (hB : By B) (hx : 0 ≤ x ∧ x < 256) (hy : 0 ≤ y ∧ y < 256) (h : sumN (A ++ x :: B) = sumN (A ++ y :: B)) : x = y := by
  unfold sumN at h
  have hc := crcFrom_lt hA (c := 4294967295) (by decide)
  have h1 := crcFrom_lt (By.app hA (By.cons hx hB)) (c := 4294967295) (by decide)
  have h2 := crcFrom_lt (By.app hA (By.cons hy hB)) (c := 4294967295) (by decide)
  have e : crcFrom 4294967295 (A ++ x :: B) = crcFrom 4294967295 (A ++ y :: B) := by omega
  rw [crcFrom_app, crcFrom_app] at e
  have hx' := xor_lt32 hc (b := x.toNat) (by omega)
  have hy' := xor_lt32 hc (b := y.toNat) (by omega)
  have e2 := crcFrom_inj hB (crcIt_lt hx' 8) (crcIt_lt hy' 8) e
  have e3 := crcIt_inj hx' hy' 8 e2
  rw [Nat.xor_comm _ x.toNat, Nat.xor_comm _ y.toNat] at e3
  have e4 := xor_cancel_right e3
  omega

theorem sum4_inj {a b : Nat} (ha : a < 4294967296) (hb : b < 4294967296) (h : sum4 a = sum4 b) : a = b := by
  have h1 := get4_sum4 ha []
  have h2 := get4_sum4 hb []
  rw [h] at h1
  omega

/-- A record of which one byte is another one is no record of as many bytes. -/
theorem turned {ys : List Int} (hy : By ys) {A B : List Int} {x y : Int} (hs : sealL ys = A ++ x :: B) (hne : x ≠ y) (hyb : 0 ≤ y ∧ y < 256) (h0 : (openR (A ++ y :: B)).2.2 = 0) (hn : (openR (A ++ y :: B)).2.1 = (sealL ys).length) : False := by
  have hsb := sealL_by hy
  rw [hs] at hsb
  have hA : By A := fun z hz => hsb z (by simp [hz])
  have hB : By B := fun z hz => hsb z (by simp [hz])
  have hx := hsb x (by simp)
  obtain ⟨d, rest, ho, _, _, he⟩ := openR_form (By.app hA (By.cons hyb hB)) h0
  rw [ho] at hn
  simp only at hn
  have hlen : (A ++ y :: B).length = (sealL ys).length := by rw [hs]; simp
  have hrest : rest = [] := by
    have := congrArg List.length he
    rw [hlen, List.length_append, hn] at this
    exact List.length_eq_zero_iff.1 (by omega)
  rw [hrest, List.append_nil] at he
  have hdl := sealL_len_inj hn
  -- both are the same count, some bytes, and a sum
  have e1 : A ++ x :: B = (putL ys.length ++ ys) ++ sum4 (sumN (putL ys.length ++ ys)) := hs.symm
  have e2 : A ++ y :: B = (putL ys.length ++ d) ++ sum4 (sumN (putL ys.length ++ d)) := by rw [he]; unfold sealL; rw [hdl]
  have hl1 : (putL ys.length ++ ys).length = (putL ys.length ++ d).length := by simp [hdl]
  by_cases hin : A.length < (putL ys.length ++ ys).length
  · -- the turned byte lies ahead of the sum
    obtain ⟨C, hC⟩ : ∃ C, putL ys.length ++ ys = A ++ x :: C := by
      have h1 := congrArg (List.take (putL ys.length ++ ys).length) e1
      rw [List.take_left, List.take_append, List.take_of_length_le (by omega)] at h1
      obtain ⟨k, hk⟩ : ∃ k, (putL ys.length ++ ys).length - A.length = k + 1 := ⟨_, (Nat.succ_pred_eq_of_pos (by omega)).symm⟩
      rw [hk, List.take_succ_cons] at h1
      exact ⟨_, h1.symm⟩
    have hB1 : B = C ++ sum4 (sumN (putL ys.length ++ ys)) := by
      rw [hC, List.append_assoc] at e1
      have := List.append_cancel_left e1
      simpa [hC] using this
    have hC2 : putL ys.length ++ d = A ++ y :: C := by
      have h1 := congrArg (List.take (putL ys.length ++ d).length) e2
      rw [List.take_left, ← hl1, hC, hB1] at h1
      rw [← h1, show A ++ y :: (C ++ sum4 (sumN (putL ys.length ++ ys))) = (A ++ y :: C) ++ sum4 (sumN (putL ys.length ++ ys)) by simp]
      rw [show (A ++ x :: C).length = (A ++ y :: C).length by simp, List.take_left]
    have hB2 : B = C ++ sum4 (sumN (putL ys.length ++ d)) := by
      rw [hC2, List.append_assoc] at e2
      have := List.append_cancel_left e2
      simpa [hC2] using this
    have hss := List.append_cancel_left (hB1.symm.trans hB2)
    have hsn := sum4_inj (sumN_lt _) (sumN_lt _) hss
    rw [hC, hC2] at hsn
    have hCb : By C := fun z hz => hB z (by rw [hB1]; exact List.mem_append_left _ hz)
    exact hne (sumN_one hA hCb hx hyb hsn)
  · -- it lies in the sum: then the bytes ahead are the same, and so is the sum
    have hA1 : A.take (putL ys.length ++ ys).length = putL ys.length ++ ys := by
      have h1 := congrArg (List.take (putL ys.length ++ ys).length) e1
      rw [List.take_left, List.take_append_of_le_length (by omega)] at h1
      exact h1
    have hA2 : A.take (putL ys.length ++ ys).length = putL ys.length ++ d := by
      have h1 := congrArg (List.take (putL ys.length ++ ys).length) e2
      rw [hl1, List.take_left, ← hl1, List.take_append_of_le_length (by omega)] at h1
      exact h1
    have hsame : putL ys.length ++ ys = putL ys.length ++ d := hA1.symm.trans hA2
    rw [← hsame] at e2
    have := e1.trans e2.symm
    have := List.append_cancel_left this
    exact hne (List.cons.inj this).1

end Go.Proofs.Ytpjhadaiodnnaaa.M

namespace Go.Proofs.Ytpjhadaiodnnaaa.M
open Go.ChangeShapes Go.WideShapes Go.ChangeAt Go.RowKit

theorem Rd.sub {k : IntKind} {w : World} {b o n c : Nat} {xs : List Int} (h : Rd k w (some ⟨b, o, none⟩) n c xs) (a m d : Nat) (h1 : a + m ≤ n) (h2 : m ≤ d) : Rd k w (some ⟨b, o + a, none⟩) m d ((xs.drop a).take m) := by
  have hl := h.len
  refine ⟨by rw [List.length_take, List.length_drop]; omega, h2, (fun e => by cases e), fun hm => ⟨b, o + a, rfl, fun i hi => ?_⟩⟩
  obtain ⟨b', o', he, hc⟩ := h.cells (by omega)
  cases he
  have := hc (a + i) (by omega)
  rw [show o + a + i = o + (a + i) by omega, this]
  rw [List.getD_eq_getElem?_getD, List.getD_eq_getElem?_getD, List.getElem?_take, if_pos hi, List.getElem?_drop]

set_option maxRecDepth 20000 in
theorem chunk_long (p : Option Addr) (n c : Nat) (xs : List Int) (most : Nat) (w : World) (hr : Rd .u8 w p n c xs) (hx : By xs) (hn : n ≤ 1099511627776) (hm : most ≤ 1099511627776) (he : (numR xs).2.2 = 0) (hv : most < (numR xs).1) :
    Calls Try.prog 94 #[.slice p n c, .int .i64 most] w fun e w' => e = .returned (.tuple #[.slice none 0 0, .int .i64 0, .int .i64 4]) ∧ w' = w := by
  have hq := number_any p n c xs w hr hx hn
  rw [he] at hq
  generalize (numR xs).1 = a at hq hv
  generalize (numR xs).2.1 = b at hq
  clear hr hx he
  rcases (show 0 < most ∨ most = 0 by omega) with h | rfl
  · go_enter Try.func94, Try.ntmps94
    go_wp2_with (go_at_call 92; refine hq.mono ?_; rintro e w1 ⟨rfl, hw⟩; subst hw)
    go_ret3
    exact ⟨rfl, rfl⟩
  · go_enter Try.func94, Try.ntmps94
    go_wp2_with (go_at_call 92; refine hq.mono ?_; rintro e w1 ⟨rfl, hw⟩; subst hw)
    go_ret3
    exact ⟨rfl, rfl⟩

set_option maxRecDepth 20000 in
theorem chunk_short (p : Option Addr) (n c : Nat) (xs : List Int) (most : Nat) (w : World) (hr : Rd .u8 w p n c xs) (hx : By xs) (hn : n ≤ 1099511627776) (hm : most ≤ 1099511627776) (he : (numR xs).2.2 = 0) (hv : (numR xs).1 ≤ most) (ha : (numR xs).2.1 ≤ n) (hs : n - (numR xs).2.1 < (numR xs).1) :
    Calls Try.prog 94 #[.slice p n c, .int .i64 most] w fun e w' => e = .returned (.tuple #[.slice none 0 0, .int .i64 0, .int .i64 2]) ∧ w' = w := by
  have hq := number_any p n c xs w hr hx hn
  rw [he] at hq
  generalize (numR xs).1 = a at hq hv hs
  generalize (numR xs).2.1 = b at hq hs ha
  clear hr hx he
  go_enter Try.func94, Try.ntmps94
  go_wp2_with (go_at_call 92; refine hq.mono ?_; rintro e w1 ⟨rfl, hw⟩; subst hw)
  go_ret3
  exact ⟨rfl, rfl⟩

theorem ret_chunk (p : Option Addr) (a v : Nat) : Ending.returned (.tuple #[.slice p (a + v - a) (a + v - a), .int .i64 ((a : Int) + (v : Int)), .int .i64 0]) = .returned (.tuple #[.slice p v v, .int .i64 ((a + v : Nat) : Int), .int .i64 0]) := by
  rw [Nat.add_sub_cancel_left, Int.natCast_add]

set_option maxRecDepth 20000 in
theorem chunk_ok (b o n c : Nat) (xs : List Int) (most : Nat) (w : World) (hr : Rd .u8 w (some ⟨b, o, none⟩) n c xs) (hx : By xs) (hn : n ≤ 1099511627776) (hm : most ≤ 1099511627776) (he : (numR xs).2.2 = 0) (hv : (numR xs).1 ≤ most) (hs : (numR xs).2.1 + (numR xs).1 ≤ n) :
    Calls Try.prog 94 #[.slice (some ⟨b, o, none⟩) n c, .int .i64 most] w fun e w' => ∃ o', e = .returned (.tuple #[.slice (some ⟨b, o', none⟩) (numR xs).1 (numR xs).1, .int .i64 ((numR xs).2.1 + (numR xs).1 : Nat), .int .i64 0]) ∧ Rd .u8 w (some ⟨b, o', none⟩) (numR xs).1 (numR xs).1 ((xs.drop (numR xs).2.1).take (numR xs).1) ∧ w' = w := by
  have hq := number_any _ n c xs w hr hx hn
  have hcap := hr.cap
  have hsub := hr.sub (numR xs).2.1 (numR xs).1 (numR xs).1 hs (Nat.le_refl _)
  rw [he] at hq
  generalize (numR xs).1 = v at hq hv hs hsub ⊢
  generalize (numR xs).2.1 = a at hq hs hsub ⊢
  clear hr hx he
  rcases (show v = 0 ∨ 0 < v by omega) with hv0 | hv0
  · subst hv0
    go_enter Try.func94, Try.ntmps94
    go_wp2_with (go_at_call 92; refine hq.mono ?_; rintro e w1 ⟨rfl, hw⟩; subst hw)
    go_ret3
    exact ⟨_, rfl, Rd.empty _ _ _ _ (fun _ => rfl), rfl⟩
  · go_enter Try.func94, Try.ntmps94
    go_wp2_with (go_at_call 92; refine hq.mono ?_; rintro e w1 ⟨rfl, hw⟩; subst hw)
    go_ret3
    exact ⟨_, ret_chunk _ a v, hsub, rfl⟩

theorem or_byte_u32 (s z : Nat) (hs : s < 16777216) (hz : z < 256) : bits .or .u32 ((s : Int) * 256) (z : Int) = ((s * 256 + z : Nat) : Int) := by
  rw [show (s : Int) * 256 = ((s * 256 : Nat) : Int) by omega, u32_or_nat (s * 256) z (by omega) (by omega), nat_join 8 (s * 256) z (by omega) (by omega)]

/-- The number in the first bytes. -/
def getN (l : List Int) : Nat := l.foldl (fun s x => s * 256 + x.toNat) 0

theorem getN_snoc {l : List Int} {k : Nat} (h : k < l.length) : getN (l.take (k + 1)) = getN (l.take k) * 256 + (l.getD k 0).toNat := by
  unfold getN
  rw [take_snoc h, List.foldl_append]
  rfl

theorem getN_lt {l : List Int} (hb : By l) : getN l < 256 ^ l.length := by
  have key : ∀ (l : List Int) (s n : Nat), By l → s < 256 ^ n → l.foldl (fun s x => s * 256 + x.toNat) s < 256 ^ (n + l.length) := by
    intro l
    induction l with
    | nil => intro s n _ h; simpa using h
    | cons x r ih =>
      intro s n hb h
      have hx := hb x (by simp)
      have := ih (s * 256 + x.toNat) (n + 1) (fun y hy => hb y (by simp [hy])) (by rw [Nat.pow_succ]; omega)
      rw [List.length_cons, show n + (r.length + 1) = n + 1 + r.length by omega]
      exact this
  have := key l 0 0 hb (by simp)
  simpa [getN] using this

set_option maxRecDepth 20000 in
set_option maxHeartbeats 400000 in
theorem getSum_any (b o n c : Nat) (xs : List Int) (w : World) (hr : Rd .u8 w (some ⟨b, o, none⟩) n c xs) (hx : By xs) (hn : 4 ≤ n) :
    Calls Try.prog 105 #[.slice (some ⟨b, o, none⟩) n c] w fun e w' => e = .returned (.int .u32 (get4 xs)) ∧ w' = w := by
  have hcap := hr.cap
  have hlen := hr.len
  have hc : ∀ i, i < n → w.cell? ⟨b, o + i, none⟩ = some (.int .u8 (xs.getD i 0)) := by
    obtain ⟨b', o', he, hc⟩ := hr.cells (by omega)
    cases he
    exact hc
  have HG : Hid (get4 xs = getN (xs.take 4)) := rfl
  clear hr
  go_enter Try.func105, Try.ntmps105
  go_wp2
  go_loop [3, 9] (fun v i => ∃ k : Nat, k ≤ 4 ∧ i = .int .i64 k ∧ v = .int .u32 (getN (xs.take k))) (fun _ i => 4 - (intOf i).toNat)
  case atStart => exact ⟨0, by omega, rfl, rfl⟩
  case round =>
    obtain ⟨k, hk, rfl, rfl⟩ := hrel
    by_cases h : k < 4
    · have hcx := hc k (by omega)
      have hz := hx (xs.getD k 0) (getD_mem (by omega))
      have HS : Hid (getN (xs.take (k + 1)) = getN (xs.take k) * 256 + (xs.getD k 0).toNat) := getN_snoc (by omega)
      have hg : getN (xs.take k) < 16777216 := by
        have h1 := getN_lt (hx.take k)
        rw [List.length_take, Nat.min_eq_left (by omega)] at h1
        have h2 : 256 ^ k ≤ 256 ^ 3 := Nat.pow_le_pow_right (by decide) (by omega)
        exact Nat.lt_of_lt_of_le h1 h2
      clear hc hx hlen HG
      generalize xs.getD k 0 = z at hcx hz HS
      generalize getN (xs.take k) = s at hg HS
      obtain ⟨z, rfl⟩ := Int.eq_ofNat_of_zero_le hz.1
      have hor := or_byte_u32 s z hg (by omega)
      go_wp2
      go_round
      case rel => exact ⟨k + 1, by omega, by go_num, by rw [HS.out]; rfl⟩
      case measure => simp [intOf]; omega
    · obtain rfl : k = 4 := by omega
      clear hc hx
      rw [← HG.out]
      go_wp2
      go_ret
      exact ⟨rfl, rfl⟩

end Go.Proofs.Ytpjhadaiodnnaaa.M
