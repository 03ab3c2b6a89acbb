/-
  Own text: contracts of the program's records (putSum, Seal, the errors of chunk and Open) and of the reference's Seal.
-/
import Derived.Test.YtpjhadaiodnnaaaRef
import Derived.Test.YtpjhadaiodnnaaaNum
namespace Go.Proofs.Ytpjhadaiodnnaaa.M
open Go.ChangeShapes Go.WideShapes Go.ChangeAt Go.RowKit

/-- Four bytes, the highest first. -/
def sum4 (s : Nat) : List Int := [((s / 16777216 % 256 : Nat) : Int), ((s / 65536 % 256 : Nat) : Int), ((s / 256 % 256 : Nat) : Int), ((s % 256 : Nat) : Int)]

/-- The record of bytes. -/
def sealL (ys : List Int) : List Int := (putL ys.length ++ ys) ++ sum4 (sumN (putL ys.length ++ ys))

theorem sum4_by (s : Nat) : By (sum4 s) := By.cons (by omega) (By.cons (by omega) (By.cons (by omega) (By.cons (by omega) By.nil)))

theorem sealL_by {ys : List Int} (h : By ys) : By (sealL ys) := By.app (By.app (putL_by _) h) (sum4_by _)

theorem Rd.list (k : IntKind) (w : World) (e : TypeId) (zs : List Int) : Rd k (w.alloc (.cells (zs.map (Value.int k)).toArray e)) (some ⟨w.heap.size, 0, none⟩) zs.length zs.length zs := by
  refine ⟨rfl, Nat.le_refl _, (fun h => by cases h), fun _ => ⟨w.heap.size, 0, rfl, fun i hi => ?_⟩⟩
  rw [cell_of_row _ w.heap.size (0 + i) _ e (0, 0) (heap_alloc_new w _)]
  rw [Nat.zero_add, List.getElem?_toArray, List.getElem?_map, List.getD_eq_getElem?_getD, List.getElem?_eq_getElem hi]
  rfl

theorem Rd.four (k : IntKind) (w : World) (e : TypeId) (a b c d : Int) : Rd k (w.alloc (.cells #[.int k a, .int k b, .int k c, .int k d] e)) (some ⟨w.heap.size, 0, none⟩) 4 4 [a, b, c, d] := Rd.list k w e [a, b, c, d]

theorem sum4_eq (s : Nat) (h : s < 4294967296) : sum4 s = [(s : Int) / 16777216, (s : Int) / 65536 % 256, (s : Int) / 256 % 256, (s : Int) % 256] := by
  unfold sum4
  rw [show ((s / 16777216 % 256 : Nat) : Int) = (s : Int) / 16777216 by omega]
  rfl

set_option maxRecDepth 20000 in
theorem putSum_any (B : Nat) (p : Option Addr) (n c : Nat) (xs : List Int) (w : World) (ho : Ow .u8 5 w B p n c xs) (hx : By xs) (hB : B ≤ w.heap.size) (hn : n ≤ 70368744177664) :
    Calls Try.prog 87 #[.slice p n c] w fun e w' => ∃ p' c', e = .returned (.slice p' (n + 4) c') ∧ Ow .u8 5 w' B p' (n + 4) c' (xs ++ sum4 (sumN xs)) ∧ Below B w w' := by
  have hs := sumN_lt xs
  have hsum := sum_any p n c xs w ho.rd hx (by omega)
  have e4 : Hid (sum4 (sumN xs) = [(sumN xs : Int) / 16777216, (sumN xs : Int) / 65536 % 256, (sumN xs : Int) / 256 % 256, (sumN xs : Int) % 256]) := sum4_eq _ hs
  generalize sumN xs = s at hs hsum e4
  clear hx
  go_enter Try.func87, Try.ntmps87
  go_wp2_with (first | (go_at_call 104; refine hsum.mono ?_; rintro e w1 ⟨rfl, rfl⟩; clear hsum) | (at_builtin; refine app8 _ rfl _ _ rfl B _ _ _ xs rfl (ho.below (below_alloc _ _)) _ _ _ _ rfl (Rd.four _ _ _ _ _ _ _) ?d1 ?d3 ?_))
  case d1 => omega
  case d3 => simp; omega
  intro p3 c3 w3 ho3 hb3
  have ho4 : Ow .u8 5 w3 B p3 (n + 4) c3 (xs ++ sum4 s) := by rw [e4.out]; exact ho3
  have hb4 := ((below_alloc _ _).mono hB).trans hb3
  clear ho3 hb3 e4
  go_wp2
  go_ret
  exact ⟨p3, c3, rfl, ho4, hb4⟩

set_option maxRecDepth 20000 in
theorem seal_any (p : Option Addr) (n c : Nat) (xs : List Int) (w : World) (hr : Rd .u8 w p n c xs) (hx : By xs) (hn : n ≤ 8192) :
    Calls Try.prog 60 #[.slice p n c] w fun e w' => ∃ p' n' c', e = .returned (.tuple #[.slice p' n' c', .int .i64 0]) ∧ Ow .u8 5 w' w.heap.size p' n' c' (sealL xs) ∧ Below w.heap.size w w' := by
  have hpl := putL_len (m := n) (by omega)
  have hq := putBytes_any none 0 0 [] p n c xs w (Rd.empty _ _ _ _ (fun _ => rfl)) hr (by omega) (by omega)
  simp only [Nat.zero_add, List.nil_append] at hq
  have hlen := hr.len
  have HL : Hid (xs.length = n) := hlen
  have hby : By (putL n ++ xs) := By.app (putL_by _) hx
  clear hr hx hlen
  go_enter Try.func60, Try.ntmps60
  go_wp2_with (first | (go_at_call 86; refine hq.mono ?_; rintro e w1 ⟨p1, c1, rfl, ho1, hb1⟩; have hps := putSum_any w.heap.size p1 _ c1 _ w1 ho1 hby hb1.size (by omega); clear hq ho1) | (go_at_call 87; refine hps.mono ?_; rintro e w2 ⟨p2, c2, rfl, ho2, hb2⟩))
  have ho3 : Ow .u8 5 w2 w.heap.size p2 ((putL n).length + n + 4) c2 (sealL xs) := by
    unfold sealL
    rw [HL.out]
    exact ho2
  have hb3 := hb1.trans hb2
  clear ho2 hb1 hb2 hps
  go_ret2
  exact ⟨p2, _, c2, rfl, ho3, hb3⟩

set_option maxRecDepth 20000 in
theorem seal_long (p : Option Addr) (n c : Nat) (w : World) (hn : 8192 < n) :
    Calls Try.prog 60 #[.slice p n c] w fun e w' => e = .returned (.tuple #[.slice none 0 0, .int .i64 4]) ∧ w' = w := by
  go_enter Try.func60, Try.ntmps60
  go_wp2
  go_ret2
  exact ⟨rfl, rfl⟩

set_option maxRecDepth 20000 in
theorem rseal_long (p : Option Addr) (n c : Nat) (w : World) (hn : 8192 < n) :
    Calls Try.prog 76 #[.slice p n c] w fun e w' => e = .returned (.tuple #[.slice none 0 0, .int .i64 4]) ∧ w' = w := by
  go_enter Try.func76, Try.ntmps76
  go_wp2
  go_ret2
  exact ⟨rfl, rfl⟩

set_option maxRecDepth 20000 in
theorem rseal_any (p : Option Addr) (n c : Nat) (xs : List Int) (w : World) (hr : Rd .u8 w p n c xs) (hx : By xs) (hn : n ≤ 8192) :
    Calls Try.prog 76 #[.slice p n c] w fun e w' => ∃ p' n' c', e = .returned (.tuple #[.slice p' n' c', .int .i64 0]) ∧ Ow .u8 5 w' w.heap.size p' n' c' (sealL xs) ∧ Below w.heap.size w w' := by
  have hpl := putL_len (m := n) (by omega)
  have hq := rbytes_any none 0 0 [] p n c xs w (Rd.empty _ _ _ _ (fun _ => rfl)) hr (by omega) (by omega)
  simp only [Nat.zero_add, List.nil_append] at hq
  have hlen := hr.len
  have HL : Hid (xs.length = n) := hlen
  have hby : By (putL n ++ xs) := By.app (putL_by _) hx
  have hs := sumN_lt (putL n ++ xs)
  have e4 : Hid (sum4 (sumN (putL n ++ xs)) = [(sumN (putL n ++ xs) : Int) / 16777216, (sumN (putL n ++ xs) : Int) / 65536 % 256, (sumN (putL n ++ xs) : Int) / 256 % 256, (sumN (putL n ++ xs) : Int) % 256]) := sum4_eq _ hs
  clear hr hx hlen
  go_enter Try.func76, Try.ntmps76
  go_wp2_with (first | (go_at_call 97; refine hq.mono ?_; rintro e w1 ⟨p1, c1, rfl, ho1, hb1⟩; have hsum := rsum_any _ _ _ _ w1 ho1.rd hby (by omega); clear hq) | (go_at_call 99; refine hsum.mono ?_; rintro e w2 ⟨rfl, hw2⟩; subst hw2; clear hsum) | (at_builtin; refine app8 _ rfl _ _ rfl w.heap.size _ _ _ _ rfl (ho1.below (below_alloc _ _)) _ _ _ _ rfl (Rd.four _ _ _ _ _ _ _) ?d1 ?d3 ?_))
  case d1 => omega
  case d3 => have := hb1.size; simp; omega
  intro p3 c3 w3 ho3 hb3
  have ho4 : Ow .u8 5 w3 w.heap.size p3 ((putL n).length + n + 4) c3 (sealL xs) := by
    unfold sealL
    rw [HL.out, e4.out, List.append_assoc]
    exact ho3
  have hb4 := (hb1.trans ((below_alloc _ _).mono hb1.size)).trans hb3
  clear ho3 hb3 e4 hb1 ho1
  go_wp2
  go_ret2
  exact ⟨p3, _, c3, rfl, ho4, hb4⟩

set_option maxRecDepth 20000 in
/-- Where there is no number, there is no chunk. -/
theorem chunk_err (p : Option Addr) (n c : Nat) (xs : List Int) (most : Int) (w : World) (hr : Rd .u8 w p n c xs) (hx : By xs) (hn : n ≤ 1099511627776) (he : (numR xs).2.2 ≠ 0) :
    Calls Try.prog 94 #[.slice p n c, .int .i64 most] w fun e w' => e = .returned (.tuple #[.slice none 0 0, .int .i64 0, .int .i64 (numR xs).2.2]) ∧ w' = w := by
  have hq := number_any p n c xs w hr hx hn
  generalize (numR xs).1 = a at hq
  generalize (numR xs).2.1 = b at hq
  generalize (numR xs).2.2 = d at hq he ⊢
  have hd : ((d : Int) != 0) = true := by simp; omega
  clear hr hx he
  go_enter Try.func94, Try.ntmps94
  go_wp2_with (go_at_call 92; refine hq.mono ?_; rintro e w1 ⟨rfl, hw⟩; subst hw)
  go_ret3
  exact ⟨rfl, rfl⟩

set_option maxRecDepth 20000 in
theorem open_err (p : Option Addr) (n c : Nat) (xs : List Int) (w : World) (hr : Rd .u8 w p n c xs) (hx : By xs) (hn : n ≤ 1099511627776) (he : (numR xs).2.2 ≠ 0) :
    Calls Try.prog 89 #[.slice p n c] w fun e w' => e = .returned (.tuple #[.slice none 0 0, .int .i64 0, .int .i64 (numR xs).2.2]) ∧ w' = w := by
  have hq := chunk_err p n c xs 8192 w hr hx hn he
  generalize (numR xs).2.2 = d at hq he ⊢
  have hd : ((d : Int) != 0) = true := by simp; omega
  clear hr hx he
  go_enter Try.func89, Try.ntmps89
  go_wp2_with (go_at_call 94; refine hq.mono ?_; rintro e w1 ⟨rfl, hw⟩; subst hw)
  go_ret3
  exact ⟨rfl, rfl⟩

end Go.Proofs.Ytpjhadaiodnnaaa.M
