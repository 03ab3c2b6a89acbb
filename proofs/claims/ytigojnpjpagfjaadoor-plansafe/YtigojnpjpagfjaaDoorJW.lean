/-
  Own text: contracts of the program's functions that put numbers and bytes behind bytes.
  Own text: contracts of the program's Turn and Back, and of the reference's.
  Own text: contracts of slices.Clone, of the program's PutInts, PutBool, PutBytes and of the reference's Put, Ints, Bool, Bytes.
  Own text: contracts of the reference's Put, Ints, Bool, Bytes.
  Own text: the check sum in plain words, and contracts of the program's Sum and of the reference's.
  Own text: reading a number off bytes in plain words, and the contract of the program's number.
  Own text: contracts of the program's records (putSum, Seal, the errors of chunk and Open) and of the reference's Seal.
  Own text: the plain mathematics of reading numbers and records: what is put is read, what is read was put, a record that is cut off, a record of which one byte is turned.
  Own text: the plain mathematics of records: what is sealed is opened, what is opened was sealed, a record that is cut off is too short, and one of which a byte is turned is no record of as many bytes.
  Own text: contracts of the program's chunk, getSum and Open.
  Own text: the contract of the program's Open.
  Own text: a reader that Read made, and contracts of its calls.
-/
import Derived.Test.YtigojnpjpagfjaaDoorVPure
import Derived.Test.YtigojnpjpagfjaaDoorPure
import Derived.Test.YtigojnpjpagfjaaDoorRows
import Derived.WalkKit
import Derived.ProofKit
import Derived.Laws.BitsAllLaws
import Derived.WalkSpells
import Derived.WalkSmall
import Derived.Deep.QuietTactic
import Derived.BigQuiet
namespace Go.Proofs.YtigojnpjpagfjaaDoor.M
open Go.ChangeShapes Go.WideShapes Go.ChangeAt Go.RowKit

theorem info5 : (Tryd.prog.info? 5).map (fun i => (i.zero, i.size, i.bytes)) = some (some (.int .u8 0), 1, 1) := by kernel_rfl

theorem Below.via {B : Nat} {a b c : World} (h : Below B a b) (k : Below b.heap.size b c) (hB : B ≤ a.heap.size) : Below B a c := h.trans (k.mono (Nat.le_trans hB h.size))

set_option maxRecDepth 20000 in
set_option maxHeartbeats 400000 in
theorem putNumber_any (B : Nat) (p : Option Addr) (n c : Nat) (xs : List Int) (m : Nat) (w : World) (ho : Ow .u8 5 w B p n c xs) (hB : B ≤ w.heap.size) (hm : m < 18446744073709551616) (hn : n ≤ 70368744177664) :
    Calls Tryd.prog 70 #[.slice p n c, .int .u64 m] w fun e w' => ∃ p' c', e = .returned (.slice p' (n + (putL m).length) c') ∧ Ow .u8 5 w' B p' (n + (putL m).length) c' (xs ++ putL m) ∧ Below B w w' := by
  obtain ⟨i0, hi, hz0, hz1, hz2⟩ := info_parts info5
  have hL : n + (putL m).length ≤ 80368744177664 := by have := putL_len hm; omega
  have hxl := ho.len
  go_enter Tryd.func70, Tryd.ntmps70
  go_wp2
  go_loopw [0, 1] (fun v q wr => ∃ (m' : Nat) (p' : Option Addr) (n' c' : Nat) (xs' : List Int), q = .int .u64 m' ∧ m' ≤ m ∧ v = .slice p' n' c' ∧ Ow .u8 5 wr B p' n' c' xs' ∧ Hid (xs' ++ putL m' = xs ++ putL m) ∧ Below B w wr) (fun _ q _ => (intOf q).toNat)
  case atStart => exact ⟨m, p, n, c, xs, rfl, Nat.le_refl _, rfl, ho, rfl, Below.refl _ _⟩
  case round =>
    obtain ⟨m', p', n', c', xs', rfl, hm', rfl, ho', he, hb⟩ := hrel
    have hle : n' + (putL m').length = n + (putL m).length := by
      have := congrArg List.length he.out
      simp only [List.length_append, ho'.len, hxl] at this
      exact this
    have hBr : B ≤ wr.heap.size := Nat.le_trans hB hb.size
    have HL : Hid (n' + (putL m').length = n + (putL m).length) := hle
    have hn1 : n' + 1 ≤ 80368744177664 := by have := putL_pos m'; omega
    clear hm hn ho hL hle hxl
    by_cases h : 128 ≤ m'
    · go_wp2_with (at_builtin; refine wpList_app _ rfl _ _ 58 rfl .u8 5 i0 (.int .u8 0) 1 Tryd.underlying58 hi hz0 hz1 hz2 rfl B _ _ _ xs' rfl (ho'.below (below_alloc _ _)) _ _ _ _ rfl (Rd.one _ _ _ _) ?c1 ?c2 ?c3 ?_)
      case c1 => omega
      case c2 => unfold maxLen; omega
      case c3 => simp; omega
      intro p2 c2 w2 ho2 hb2
      rw [or128] at ho2 hb2
      have R : Hid ((xs' ++ [((128 + m' % 128 : Nat) : Int)]) ++ putL (m' / 128) = xs ++ putL m) := by
        show _ = _
        rw [← he.out, putL_great h, List.append_assoc]
        rfl
      have hb3 : Below B w w2 := (hb.trans ((below_alloc _ _).mono hBr)).trans hb2
      clear he HL hb hb2 ho'
      go_wp2
      go_roundw
      case rel => exact ⟨m' / 128, p2, n' + 1, c2, _, by go_num, by omega, rfl, ho2, R, hb3⟩
      case measure => simp [intOf]; omega
    · go_wp2_with (at_builtin; refine wpList_app _ rfl _ _ 58 rfl .u8 5 i0 (.int .u8 0) 1 Tryd.underlying58 hi hz0 hz1 hz2 rfl B _ _ _ xs' rfl (ho'.below (below_alloc _ _)) _ _ _ _ rfl (Rd.one _ _ _ _) ?d1 ?d2 ?d3 ?_)
      case d1 => omega
      case d2 => unfold maxLen; omega
      case d3 => simp; omega
      intro p2 c2 w2 ho2 hb2
      have e : xs ++ putL m = xs' ++ [(m' : Int)] := by rw [← he.out, putL_small (by omega)]
      have e2 : n + (putL m).length = n' + 1 := by rw [← HL.out, putL_small (by omega)]; rfl
      have hb3 : Below B w w2 := (hb.trans ((below_alloc _ _).mono hBr)).trans hb2
      have R : ∃ p' c', Ending.returned (.slice p2 (n' + 1) c2) = .returned (.slice p' (n + (putL m).length) c') ∧ Ow .u8 5 w2 B p' (n + (putL m).length) c' (xs ++ putL m) ∧ Below B w w2 := by
        rw [e, e2]
        exact ⟨p2, c2, rfl, ho2, hb3⟩
      clear e e2 he HL hb hb2 ho' hb3 ho2
      go_wp2
      go_ret
      exact R

theorem app8 {ops : Array Oper} {rest : List Oper} {o : Oper} {a : Act} {Q : Exit → Act → World → Prop} (w : World) (hgd : o.guard = none) (s x : Operand)
    (hop : o.op = .call { callee := .builtin .append, args := #[s, x], argTypes := #[58, 58] })
    (B : Nat) (p : Option Addr) (n c : Nat) (xs : List Int) (hs : a.eval s = .slice p n c) (ho : Ow .u8 5 w B p n c xs)
    (q : Option Addr) (m d : Nat) (ys : List Int) (hx : a.eval x = .slice q m d) (hr : Rd .u8 w q m d ys) (hb : n + m ≤ 140737488355328) (hB : B ≤ w.heap.size)
    (h : ∀ p' c' w', Ow .u8 5 w' B p' (n + m) c' (xs ++ ys) → Below B w w' → wpList Tryd.prog ops Q rest (a.put o.dst (.slice p' (n + m) c')) w') : wpList Tryd.prog ops Q (o :: rest) a w := by
  obtain ⟨i0, hi, hz0, hz1, hz2⟩ := info_parts info5
  exact wpList_app w hgd s x 58 hop .u8 5 i0 (.int .u8 0) 1 Tryd.underlying58 hi hz0 hz1 hz2 rfl B p n c xs hs ho q m d ys hx hr (by omega) (by unfold maxLen; omega) hB h

theorem putNumber_int (B : Nat) (p : Option Addr) (n c : Nat) (xs : List Int) (z : Int) (w : World) (ho : Ow .u8 5 w B p n c xs) (hB : B ≤ w.heap.size) (h0 : 0 ≤ z) (hz : z < 18446744073709551616) (hn : n ≤ 70368744177664) :
    Calls Tryd.prog 70 #[.slice p n c, .int .u64 z] w fun e w' => ∃ p' c', e = .returned (.slice p' (n + (putL z.toNat).length) c') ∧ Ow .u8 5 w' B p' (n + (putL z.toNat).length) c' (xs ++ putL z.toNat) ∧ Below B w w' := by
  obtain ⟨m, rfl⟩ := Int.eq_ofNat_of_zero_le h0
  exact putNumber_any B p n c xs m w ho hB (by omega) hn

set_option maxRecDepth 20000 in
set_option maxHeartbeats 400000 in
theorem own_any (p : Option Addr) (n c : Nat) (xs : List Int) (w : World) (hr : Rd .u8 w p n c xs) (hn : n ≤ 140737488351232) :
    Calls Tryd.prog 69 #[.slice p n c] w fun e w' => ∃ p' c', e = .returned (.slice p' n c') ∧ Ow .u8 5 w' w.heap.size p' n c' xs ∧ Below w.heap.size w w' := by
  cases p with
  | none =>
    go_enter Tryd.func69, Tryd.ntmps69
    go_wp2_with (at_builtin; refine app8 _ rfl _ _ rfl w.heap.size _ _ _ [] rfl (Ow.empty _ _ _ _ _) _ _ _ xs rfl hr ?c1 ?c3 ?_)
    case c1 => omega
    case c3 => exact Nat.le_refl _
    intro p2 c2 w2 ho2 hb2
    go_wp2
    go_ret
    exact ⟨p2, c2, rfl, ho2, hb2⟩
  | some a =>
    go_enter Tryd.func69, Tryd.ntmps69
    go_wp2_with (at_builtin; refine app8 _ rfl _ _ rfl w.heap.size _ _ _ [] rfl (Ow.empty _ _ _ _ _) _ _ _ xs rfl hr ?d1 ?d3 ?_)
    case d1 => omega
    case d3 => exact Nat.le_refl _
    intro p2 c2 w2 ho2 hb2
    go_wp2
    go_ret
    exact ⟨p2, c2, rfl, ho2, hb2⟩

set_option maxRecDepth 20000 in
set_option maxHeartbeats 400000 in
theorem put_any (p : Option Addr) (n c : Nat) (xs : List Int) (q : Option Addr) (m d : Nat) (ls : List Int) (w : World) (hr : Rd .u8 w p n c xs) (hl : Rd .u64 w q m d ls) (hw : Wd ls) (hn : n ≤ 1099511627776) (hm : m ≤ 1099511627776) :
    Calls Tryd.prog 53 #[.slice p n c, .slice q m d] w fun e w' => ∃ p' c', e = .returned (.slice p' (n + (putAll ls).length) c') ∧ Ow .u8 5 w' w.heap.size p' (n + (putAll ls).length) c' (xs ++ putAll ls) ∧ Below w.heap.size w w' := by
  go_enter Tryd.func53, Tryd.ntmps53
  go_wp2_with (go_at_call 69; refine (own_any _ _ _ _ _ hr (by omega)).mono ?_; rintro e w1 ⟨p1, c1, rfl, ho1, hb1⟩)
  go_loopw [5, 12] (fun v q wr => ∃ (k : Nat) (p' : Option Addr) (n' c' : Nat), q = .int .i64 k ∧ k ≤ m ∧ v = .slice p' n' c' ∧ Ow .u8 5 wr w.heap.size p' n' c' (xs ++ putAll (ls.take k)) ∧ Below w.heap.size w wr) (fun _ q _ => m - (intOf q).toNat)
  case atStart => exact ⟨0, p1, n, c1, rfl, Nat.zero_le _, rfl, by simpa [putAll] using ho1, hb1⟩
  case round =>
    obtain ⟨k, p', n', c', rfl, hk, rfl, ho', hb⟩ := hrel
    have hlw := hl.below hb
    have hnl : n' ≤ n + 10 * k := by
      have h1 := ho'.len
      have h2 := putAll_len (hw.take k)
      have h3 := hr.len
      simp only [List.length_append, List.length_take] at h1 h2
      omega
    have hBr := hb.size
    have hll := hl.len
    have HX : Hid (xs.length = n) := hr.len
    clear ho1 hb1 hr
    by_cases h : k < m
    · obtain ⟨b, o, rfl, hc⟩ := hlw.cells (by omega)
      have hcx := hc k h
      have hz := hw (ls.getD k 0) (getD_mem (by omega))
      have hsn := putAll_snoc (l := ls) (k := k) (by omega)
      have HS : Hid (putAll (ls.take (k + 1)) = putAll (ls.take k) ++ putL (ls.getD k 0).toNat) := hsn
      clear hsn hc hlw hw hl hll
      generalize ls.getD k 0 = z at hcx hz HS
      go_wp2_with (go_at_call 70; refine (putNumber_int _ _ _ _ _ _ _ ho' hBr hz.1 hz.2 (by omega)).mono ?_; rintro e w2 ⟨p2, c2, rfl, ho2, hb2⟩)
      go_roundw
      case rel => exact ⟨k + 1, p2, _, c2, by go_num, by omega, rfl, by rw [HS.out, ← List.append_assoc]; exact ho2, hb.trans hb2⟩
      case measure => simp [intOf]; omega
    · obtain rfl : k = m := by omega
      have e1 : xs ++ putAll (ls.take k) = xs ++ putAll ls := by rw [List.take_of_length_le (by omega)]
      rw [e1] at ho'
      have e2 : n' = n + (putAll ls).length := by
        have h1 := ho'.len
        rw [List.length_append, HX.out] at h1
        exact h1.symm
      subst e2
      go_wp2
      go_ret
      exact ⟨p', c', rfl, ho', hb⟩
end Go.Proofs.YtigojnpjpagfjaaDoor.M

namespace Go.Proofs.YtigojnpjpagfjaaDoor.M
open Go.ChangeShapes Go.WideShapes Go.ChangeAt Go.RowKit

/-- A number with a sign as one without. -/
def zig (n : Int) : Int := if 0 ≤ n then 2 * n else -2 * n - 1
/-- And back. -/
def zag (m : Int) : Int := if m % 2 = 0 then m / 2 else -(m / 2) - 1

theorem zag_zig (n : Int) : zag (zig n) = n := by unfold zag zig; split <;> split <;> omega
theorem zig_zag (m : Int) (h : 0 ≤ m) : zig (zag m) = m := by unfold zag zig; split <;> split <;> omega
theorem zig_bd (n : Int) (h1 : -9223372036854775808 ≤ n) (h2 : n ≤ 9223372036854775807) : 0 ≤ zig n ∧ zig n < 18446744073709551616 := by unfold zig; split <;> omega
theorem zag_bd (m : Int) (h1 : 0 ≤ m) (h2 : m < 18446744073709551616) : -9223372036854775808 ≤ zag m ∧ zag m ≤ 9223372036854775807 := by unfold zag; split <;> omega

theorem xor_zero_u64 (x : Int) (h0 : 0 ≤ x) (h1 : x < 18446744073709551616) : bits .xor .u64 x 0 = x := by
  rw [u64_xor x 0 h0 h1 (by omega) (by omega)]
  show ((x.toNat ^^^ 0 : Nat) : Int) = x
  rw [Nat.xor_zero]; omega

theorem ones64 : BitVec.ofInt 64 18446744073709551615 = BitVec.allOnes 64 := by decide +kernel
theorem mones64 : BitVec.ofInt 64 (-1) = BitVec.allOnes 64 := by decide +kernel

theorem toNat_ofInt64 (x : Int) (h0 : 0 ≤ x) (h1 : x < 18446744073709551616) : (BitVec.ofInt 64 x).toNat = x.toNat := by
  rw [BitVec.toNat_ofInt]
  show (x % 18446744073709551616).toNat = x.toNat
  rw [Int.emod_eq_of_lt h0 h1]

theorem xor_ones_u64 (x : Int) (h0 : 0 ≤ x) (h1 : x < 18446744073709551616) : bits .xor .u64 x 18446744073709551615 = 18446744073709551615 - x := by
  show IntKind.u64.wrap ((BitVec.ofInt 64 x ^^^ BitVec.ofInt 64 18446744073709551615).toNat : Int) = _
  rw [ones64, BitVec.xor_allOnes, BitVec.toNat_not, toNat_ofInt64 x h0 h1, IntKind.wrap_u64]
  omega

theorem xor_zero_i64 (x : Int) (h0 : 0 ≤ x) (h1 : x < 9223372036854775808) : bits .xor .i64 x 0 = x := by
  show IntKind.i64.wrap ((BitVec.ofInt 64 x ^^^ BitVec.ofInt 64 0).toNat : Int) = _
  rw [show BitVec.ofInt 64 0 = 0#64 from rfl, BitVec.xor_zero, toNat_ofInt64 x h0 (by omega), IntKind.wrap_i64]
  omega

theorem xor_ones_i64 (x : Int) (h0 : 0 ≤ x) (h1 : x < 9223372036854775808) : bits .xor .i64 x (-1) = -x - 1 := by
  show IntKind.i64.wrap ((BitVec.ofInt 64 x ^^^ BitVec.ofInt 64 (-1)).toNat : Int) = _
  rw [mones64, BitVec.xor_allOnes, BitVec.toNat_not, toNat_ofInt64 x h0 (by omega), IntKind.wrap_i64]
  omega

theorem and_one_64 (x : Int) (h0 : 0 ≤ x) (h1 : x < 18446744073709551616) : bits .and .u64 x 1 = x % 2 := by
  rw [u64_and x 1 h0 h1 (by omega) (by omega)]
  show ((x.toNat &&& 1 : Nat) : Int) = _
  rw [nat_mask1]; omega

theorem turn_bits (n : Int) (h1 : -9223372036854775808 ≤ n) (h2 : n ≤ 9223372036854775807) :
    bits .xor .u64 (IntKind.u64.wrap (IntKind.u64.wrap n * 2)) (IntKind.u64.wrap (n / 9223372036854775808)) = zig n := by
  simp only [IntKind.wrap_u64]
  unfold zig
  by_cases h : 0 ≤ n
  · rw [if_pos h, show n / 9223372036854775808 % 18446744073709551616 = 0 by omega, xor_zero_u64 _ (by omega) (by omega)]
    omega
  · rw [if_neg h, show n / 9223372036854775808 % 18446744073709551616 = 18446744073709551615 by omega, xor_ones_u64 _ (by omega) (by omega)]
    omega

theorem back_bits (n : Int) (h1 : 0 ≤ n) (h2 : n ≤ 18446744073709551615) : bits .xor .i64 (n / 2) (wrap64 (-wrap64 (bits .and .u64 n 1))) = zag n := by
  rw [and_one_64 n h1 (by omega)]
  unfold zag
  by_cases h : n % 2 = 0
  · rw [if_pos h, h, show wrap64 (-wrap64 0) = 0 by unfold wrap64; omega, xor_zero_i64 _ (by omega) (by omega)]
  · rw [if_neg h, show n % 2 = 1 by omega, show wrap64 (-wrap64 1) = -1 by unfold wrap64; omega, xor_ones_i64 _ (by omega) (by omega)]

end Go.Proofs.YtigojnpjpagfjaaDoor.M

namespace Go.Proofs.YtigojnpjpagfjaaDoor.M
open Go.ChangeShapes Go.WideShapes Go.ChangeAt Go.RowKit

/-- Each number is an int's. -/
def Sg (l : List Int) : Prop := ∀ x ∈ l, -9223372036854775808 ≤ x ∧ x ≤ 9223372036854775807

/-- The bytes of several numbers with signs. -/
def intAll (l : List Int) : List Int := putAll (l.map zig)

theorem Wd.zig {l : List Int} (h : Sg l) : Wd (l.map zig) := by
  intro x hx
  obtain ⟨y, hy, rfl⟩ := List.mem_map.1 hx
  exact zig_bd y (h y hy).1 (h y hy).2

theorem intAll_snoc {l : List Int} {k : Nat} (h : k < l.length) : intAll (l.take (k + 1)) = intAll (l.take k) ++ putL (zig (l.getD k 0)).toNat := by
  unfold intAll
  rw [take_snoc h, List.map_append, putAll_app]
  simp [putAll]

theorem intAll_len {l : List Int} (h : Sg l) : (intAll l).length ≤ 10 * l.length := by
  have := putAll_len (Wd.zig h)
  rw [List.length_map] at this
  exact this

theorem Sg.take {l : List Int} (h : Sg l) (k : Nat) : Sg (l.take k) := fun x hx => h x (List.mem_of_mem_take hx)

theorem Wd.one {x : Int} (h0 : 0 ≤ x) (h : x < 18446744073709551616) : Wd [x] := fun y hy => by
  obtain rfl : y = x := by simpa using hy
  exact ⟨h0, h⟩

/-- Whether something is so, as a number. -/
def yesN (b : Bool) : Int := if b then 1 else 0

end Go.Proofs.YtigojnpjpagfjaaDoor.M

namespace Go.Proofs.YtigojnpjpagfjaaDoor.M
open Go.ChangeShapes Go.WideShapes Go.ChangeAt Go.RowKit

theorem small_step {m j : Nat} (h : m < 128 ^ (10 - j)) (hj : j < 10) : m / 128 < 128 ^ (10 - (j + 1)) := by
  have e : 10 - j = (10 - (j + 1)) + 1 := by omega
  rw [e, Nat.pow_succ] at h
  exact Nat.div_lt_of_lt_mul (by rw [Nat.mul_comm]; exact h)

theorem small_end {m j : Nat} (h : m < 128 ^ (10 - j)) (hj : 10 ≤ j) : m < 128 := by
  rw [show 10 - j = 0 by omega] at h
  simp at h
  omega

theorem byte_great (m : Nat) : ((128 + (m : Int) % 128) % 256) = ((128 + m % 128 : Nat) : Int) := by omega

end Go.Proofs.YtigojnpjpagfjaaDoor.M

namespace Go.Proofs.YtigojnpjpagfjaaDoor.M
open Go.ChangeShapes Go.WideShapes Go.ChangeAt Go.RowKit

/-- One bit of the sum. -/
def crcStep (c : Nat) : Nat := if c % 2 = 1 then (c / 2) ^^^ 2197175160 else c / 2
/-- Several bits. -/
def crcIt : Nat → Nat → Nat
  | 0, c => c
  | j + 1, c => crcStep (crcIt j c)
/-- The sum of a list, from a beginning on. -/
def crcFrom (c : Nat) (xs : List Int) : Nat := xs.foldl (fun c x => crcIt 8 (c ^^^ x.toNat)) c
/-- The sum. -/
def sumN (xs : List Int) : Nat := 4294967295 - crcFrom 4294967295 xs

theorem xor_lt32 {a b : Nat} (ha : a < 4294967296) (hb : b < 4294967296) : a ^^^ b < 4294967296 := Nat.xor_lt_two_pow (n := 32) ha hb

theorem crcStep_lt {c : Nat} (h : c < 4294967296) : crcStep c < 4294967296 := by
  unfold crcStep
  split
  · exact xor_lt32 (by omega) (by omega)
  · omega

theorem crcIt_lt {c : Nat} (h : c < 4294967296) : ∀ j, crcIt j c < 4294967296
  | 0 => h
  | j + 1 => crcStep_lt (crcIt_lt h j)

theorem crcFrom_lt : ∀ {xs : List Int} {c : Nat}, By xs → c < 4294967296 → crcFrom c xs < 4294967296
  | [], _, _, h => h
  | x :: xs, c, hb, h => by
    have h1 := hb x (by simp)
    exact crcFrom_lt (xs := xs) (fun y hy => hb y (by simp [hy])) (crcIt_lt (xor_lt32 h (by omega)) 8)

theorem sumN_lt (xs : List Int) : sumN xs < 4294967296 := by unfold sumN; omega

theorem crcFrom_snoc (c : Nat) {xs : List Int} {k : Nat} (h : k < xs.length) : crcFrom c (xs.take (k + 1)) = crcIt 8 (crcFrom c (xs.take k) ^^^ (xs.getD k 0).toNat) := by
  unfold crcFrom
  rw [take_snoc h, List.foldl_append]
  rfl

theorem By.take {xs : List Int} (h : By xs) (k : Nat) : By (xs.take k) := fun x hx => h x (List.mem_of_mem_take hx)

theorem xor_u32_nat (c x : Nat) (hc : c < 4294967296) (hx : x < 4294967296) : bits .xor .u32 (c : Int) (x : Int) = ((c ^^^ x : Nat) : Int) := u32_xor_nat c x hc hx

theorem and_one_32 (c : Nat) (hc : c < 4294967296) : bits .and .u32 (c : Int) 1 = ((c % 2 : Nat) : Int) := by
  rw [show (1 : Int) = ((1 : Nat) : Int) from rfl, u32_and_nat c 1 hc (by omega), nat_mask1]

theorem step_u32 (c : Nat) (hc : c < 4294967296) : bits .xor .u32 ((c : Int) / 2) (2197175160 * bits .and .u32 (c : Int) 1 % 4294967296) = (crcStep c : Int) := by
  rw [and_one_32 c hc]
  unfold crcStep
  by_cases h : c % 2 = 1
  · rw [if_pos h, h, show 2197175160 * ((1 : Nat) : Int) % 4294967296 = ((2197175160 : Nat) : Int) by omega, show (c : Int) / 2 = ((c / 2 : Nat) : Int) by omega]
    exact xor_u32_nat _ _ (by omega) (by omega)
  · rw [if_neg h, show c % 2 = 0 by omega, show 2197175160 * ((0 : Nat) : Int) % 4294967296 = ((0 : Nat) : Int) by omega, show (c : Int) / 2 = ((c / 2 : Nat) : Int) by omega]
    rw [xor_u32_nat _ _ (by omega) (by omega), Nat.xor_zero]

theorem ones32 : BitVec.ofInt 32 IntKind.u32.max = BitVec.allOnes 32 := by decide +kernel

theorem not_u32 (c : Nat) (hc : c < 4294967296) : bits .xor .u32 IntKind.u32.max (c : Int) = ((4294967295 - c : Nat) : Int) := by
  show IntKind.u32.wrap ((BitVec.ofInt 32 IntKind.u32.max ^^^ BitVec.ofInt 32 (c : Int)).toNat : Int) = _
  rw [ones32, BitVec.xor_comm, BitVec.xor_allOnes, BitVec.toNat_not, ofInt_u32 c hc, IntKind.wrap_u32']
  omega

theorem ret_int32 {k : IntKind} {a b : Int} (h : a = b) : Ending.returned (.int k a) = .returned (.int k b) := by rw [h]

theorem step_odd (c : Nat) (hc : c < 4294967296) (h : c % 2 = 1) : bits .xor .u32 ((c : Int) / 2) 2197175160 = (crcStep c : Int) := by
  unfold crcStep
  rw [if_pos h, show (c : Int) / 2 = ((c / 2 : Nat) : Int) by omega]
  exact xor_u32_nat _ 2197175160 (by omega) (by omega)

theorem step_even (c : Nat) (h : c % 2 ≠ 1) : (c : Int) / 2 = (crcStep c : Int) := by
  unfold crcStep
  rw [if_neg h]
  omega

end Go.Proofs.YtigojnpjpagfjaaDoor.M

namespace Go.Proofs.YtigojnpjpagfjaaDoor.M
open Go.ChangeShapes Go.WideShapes Go.ChangeAt Go.RowKit

/-- Reading goes on at byte number i, with what was read so far: the number, how many bytes it has, the error. -/
def numG (i acc : Nat) : List Int → Nat × Nat × Nat
  | [] => (0, 0, 2)
  | c :: r =>
    if (i = 9 ∧ 1 < c.toNat % 128) ∨ (9 < i ∧ 0 < c.toNat % 128) then (0, 0, 5)
    else if c.toNat = 0 ∧ 0 < i then (0, 0, 10)
    else if c.toNat < 128 then (acc + c.toNat % 128 * 2 ^ (7 * i), i + 1, 0)
    else numG (i + 1) (acc + c.toNat % 128 * 2 ^ (7 * i)) r

/-- Reading a number. -/
def numR (xs : List Int) : Nat × Nat × Nat := numG 0 0 xs

theorem drop_getD {xs : List Int} {k : Nat} (h : k < xs.length) : xs.drop k = xs.getD k 0 :: xs.drop (k + 1) := by
  rw [List.drop_eq_getElem_cons h, List.getD_eq_getElem?_getD, List.getElem?_eq_getElem h]
  rfl

theorem and_127 (z : Nat) (h : z < 256) : bits .and .u8 (z : Int) 127 = ((z % 128 : Nat) : Int) := by
  rw [show (127 : Int) = ((127 : Nat) : Int) from rfl, u8_and_nat z 127 h (by omega), nat_mask7]

theorem ret3 {xs : List Int} {a b c : Nat} {A B C : Int} (h : numR xs = (a, b, c)) (ha : A = a) (hb : B = b) (hc : C = c) :
    Ending.returned (.tuple #[.int .u64 A, .int .i64 B, .int .i64 C]) = .returned (.tuple #[.int .u64 (numR xs).1, .int .i64 (numR xs).2.1, .int .i64 (numR xs).2.2]) := by
  rw [h, ha, hb, hc]

theorem or_zero_u64 (x : Nat) (h : x < 18446744073709551616) : bits .or .u64 (x : Int) (IntKind.u64.wrap 0) = (x : Int) := by
  rw [show IntKind.u64.wrap 0 = ((0 : Nat) : Int) by rw [IntKind.wrap_u64]; rfl, u64_or_nat x 0 h (by omega), Nat.or_zero]

theorem pow_le56 {k : Nat} (h : k < 9) : 2 ^ (7 * k) ≤ 72057594037927936 := by
  have h1 : 7 * k ≤ 56 := by omega
  have h2 : 2 ^ (7 * k) ≤ 2 ^ 56 := Nat.pow_le_pow_right (by decide) h1
  exact h2

theorem shift_lt {k l : Nat} (h : k ≤ 9) (hl : l < 128) (h9 : k = 9 → l ≤ 1) : l * 2 ^ (7 * k) ≤ 9223372036854775808 := by
  rcases (show k < 9 ∨ k = 9 by omega) with h1 | rfl
  · have := pow_le56 h1
    have h2 : l * 2 ^ (7 * k) ≤ 127 * 72057594037927936 := Nat.mul_le_mul (by omega) this
    omega
  · have := h9 rfl
    have h2 : l * 2 ^ (7 * 9) ≤ 1 * 9223372036854775808 := Nat.mul_le_mul this (by decide)
    omega

theorem sum_lt {k l acc : Nat} (h : k ≤ 9) (hl : l < 128) (h9 : k = 9 → l ≤ 1) (ha : acc < 2 ^ (7 * k)) : acc + l * 2 ^ (7 * k) < 18446744073709551616 := by
  rcases (show k < 9 ∨ k = 9 by omega) with h1 | rfl
  · have h2 := pow_le56 h1
    have : l * 2 ^ (7 * k) ≤ 127 * 72057594037927936 := Nat.mul_le_mul (by omega) h2
    omega
  · have := h9 rfl
    have h3 : l * 2 ^ (7 * 9) ≤ 1 * 9223372036854775808 := Nat.mul_le_mul this (by decide)
    have h4 : (2 : Nat) ^ (7 * 9) = 9223372036854775808 := by decide
    omega

theorem sum_lt_next {k l acc : Nat} (hl : l < 128) (ha : acc < 2 ^ (7 * k)) : acc + l * 2 ^ (7 * k) < 2 ^ (7 * (k + 1)) := by
  have e : 2 ^ (7 * (k + 1)) = 128 * 2 ^ (7 * k) := by rw [show 7 * (k + 1) = 7 * k + 7 by omega, Nat.pow_add, Nat.mul_comm]
  have : l * 2 ^ (7 * k) ≤ 127 * 2 ^ (7 * k) := Nat.mul_le_mul (by omega) (Nat.le_refl _)
  omega

theorem or_shift {k l acc : Nat} (h : k ≤ 9) (hl : l < 128) (h9 : k = 9 → l ≤ 1) (ha : acc < 2 ^ (7 * k)) : bits .or .u64 (acc : Int) (IntKind.u64.wrap ((l : Int) * 2 ^ (7 * k))) = ((acc + l * 2 ^ (7 * k) : Nat) : Int) := by
  have h1 := shift_lt h hl h9
  have h2 := sum_lt h hl h9 ha
  have e : ((l : Int) * 2 ^ (7 * k)) = ((l * 2 ^ (7 * k) : Nat) : Int) := by rw [Int.natCast_mul, Int.natCast_pow]; rfl
  rw [e]
  generalize hs : l * 2 ^ (7 * k) = s at *
  rw [IntKind.wrap_u64, show (s : Int) % 18446744073709551616 = (s : Int) by omega, u64_or_nat acc s (by omega) (by omega), Nat.or_comm, nat_join (7 * k) s acc (by rw [← hs]; exact Nat.mul_mod_left _ _) ha, Nat.add_comm]

theorem or_shift9 {l acc : Nat} (hl : l ≤ 1) (ha : acc < 2 ^ (7 * 9)) : bits .or .u64 (acc : Int) ((l : Int) * 9223372036854775808) = ((acc + l * 2 ^ (7 * 9) : Nat) : Int) := by
  have h := or_shift (k := 9) (l := l) (acc := acc) (Nat.le_refl _) (by omega) (fun _ => hl) ha
  rw [IntKind.wrap_u64, show ((l : Int) * 2 ^ (7 * 9)) % 18446744073709551616 = (l : Int) * 9223372036854775808 by omega] at h
  exact h

theorem shift_none {k z : Nat} (hz : z % 128 ≤ 0) : Op.shift .shl .u64 ((z : Int) % 128) .i64 (7 * (k : Int)) = pure (.int .u64 0) := by
  rw [shift_shl_any .u64 .i64 _ _ (by omega), show (z : Int) % 128 = 0 by omega, Int.zero_mul]
  rfl

set_option maxRecDepth 20000 in
set_option maxHeartbeats 1000000 in
theorem number_any (p : Option Addr) (n c : Nat) (xs : List Int) (w : World) (hr : Rd .u8 w p n c xs) (hx : By xs) (hn : n ≤ 1099511627776) :
    Calls Tryd.prog 85 #[.slice p n c] w fun e w' => e = .returned (.tuple #[.int .u64 (numR xs).1, .int .i64 (numR xs).2.1, .int .i64 (numR xs).2.2]) ∧ w' = w := by
  have hxl := hr.len
  go_enter Tryd.func85, Tryd.ntmps85
  go_wp2
  go_loop [5, 11] (fun v i => ∃ k acc : Nat, k ≤ n ∧ i = .int .i64 k ∧ v = .int .u64 acc ∧ acc < 18446744073709551616 ∧ Hid (k ≤ 9 → acc < 2 ^ (7 * k)) ∧ Hid (numR xs = numG k acc (xs.drop k))) (fun _ i => n - (intOf i).toNat)
  case atStart => exact ⟨0, 0, Nat.zero_le _, rfl, rfl, by omega, (fun _ => by simp : (0 : Nat) ≤ 9 → 0 < 2 ^ (7 * 0)), (by simp [numR] : numR xs = numG 0 0 (xs.drop 0))⟩
  case round =>
    obtain ⟨k, acc, hk, rfl, rfl, hacc, hlt, he⟩ := hrel
    by_cases h : k < n
    · obtain ⟨b, o, rfl, hc⟩ := hr.cells (by omega)
      have hcx := hc k h
      have hz := hx (xs.getD k 0) (getD_mem (by omega))
      have he2 := he.out
      rw [drop_getD (by omega)] at he2
      generalize xs.getD k 0 = z at hcx hz he2
      obtain ⟨z, rfl⟩ := Int.eq_ofNat_of_zero_le hz.1
      have ha := and_127 z (by omega)
      have hl : z % 128 < 128 := by omega
      have HE : Hid (numR xs = numG k acc ((z : Int) :: xs.drop (k + 1))) := he2
      clear hc hr hx hxl he he2 hz
      by_cases hF : z = 0 ∧ 0 < k
      · obtain ⟨hz0, hk0⟩ := hF
        have HR : Hid (numR xs = (0, 0, 10)) := by
          show _ = _
          rw [HE.out, numG, if_neg (by simp [hz0]), if_pos ⟨by simp [hz0], by omega⟩]
        have hzb : ((z : Int) == 0) = true := by simp [hz0]
        have hl0 : z % 128 ≤ 0 := by omega
        clear HE hlt hz0
        rcases (show k < 9 ∨ k = 9 ∨ 9 < k by omega) with h9 | rfl | h9
        · go_wp2
          go_ret3
          exact ⟨ret3 HR.out rfl rfl rfl, rfl⟩
        · go_wp2
          go_ret3
          exact ⟨ret3 HR.out rfl rfl rfl, rfl⟩
        · have hsh := shift_none (k := k) hl0
          go_wp2
          go_ret3
          exact ⟨ret3 HR.out rfl rfl rfl, rfl⟩
      · by_cases hR : (k = 9 ∧ 1 < z % 128) ∨ (9 < k ∧ 0 < z % 128)
        · have HR : Hid (numR xs = (0, 0, 5)) := by
            show _ = _
            rw [HE.out, numG, if_pos (by simpa using hR)]
          clear HE hlt hF
          rcases hR with ⟨rfl, h1⟩ | ⟨h9, h1⟩
          · go_wp2
            go_ret3
            exact ⟨ret3 HR.out rfl rfl rfl, rfl⟩
          · go_wp2
            go_ret3
            exact ⟨ret3 HR.out rfl rfl rfl, rfl⟩
        · by_cases h128 : z < 128
          · have hk9 : k ≤ 9 := by omega
            have h91 : k = 9 → z % 128 ≤ 1 := by omega
            have hlt2 := hlt.out hk9
            have H0 := or_shift (k := k) (l := z % 128) hk9 hl h91 hlt2
            have HR : Hid (numR xs = (acc + z % 128 * 2 ^ (7 * k), k + 1, 0)) := by
              show _ = _
              rw [HE.out, numG, if_neg (by simpa using hR), if_neg (by simp; omega), if_pos (by simpa using h128)]
              simp
            have H1 : Hid (bits .or .u64 (acc : Int) (IntKind.u64.wrap (((z % 128 : Nat) : Int) * 2 ^ (7 * k))) = ((acc + z % 128 * 2 ^ (7 * k) : Nat) : Int)) := H0
            clear HE hlt H0
            rcases (show (k = 0 ∧ z = 0) ∨ (k < 9 ∧ 0 < z) ∨ (k = 9 ∧ z % 128 ≤ 1 ∧ 0 < z) by omega) with ⟨h9, hz⟩ | ⟨h9, hz⟩ | ⟨rfl, h1, hz⟩
            · have hzb : ((z : Int) == 0) = true := by simp [hz]
              have hk0 : k ≤ 0 := by omega
              clear hR h91 hF hz h9 hlt2
              go_wp2
              go_ret3
              exact ⟨ret3 HR.out (by have := H1.out; first | exact this | simpa using this) (by omega) rfl, rfl⟩
            · have hzb : ((z : Int) == 0) = false := by simp; omega
              clear hR h91 hF hlt2
              go_wp2
              go_ret3
              exact ⟨ret3 HR.out (by have := H1.out; first | exact this | simpa using this) (by omega) rfl, rfl⟩
            · have hzb : ((z : Int) == 0) = false := by simp; omega
              have H9 : Hid (bits .or .u64 (acc : Int) (((z % 128 : Nat) : Int) * 9223372036854775808) = ((acc + z % 128 * 2 ^ (7 * 9) : Nat) : Int)) := or_shift9 h1 hlt2
              clear hR h91 hF hlt2 H1
              go_wp2
              go_ret3
              exact ⟨ret3 HR.out (by have := H9.out; first | exact this | simpa using this) (by omega) rfl, rfl⟩
          · have hzb : ((z : Int) == 0) = false := by simp; omega
            by_cases hk9 : k ≤ 9
            · have h91 : k = 9 → z % 128 ≤ 1 := by omega
              have hlt2 := hlt.out hk9
              have H1 : Hid (bits .or .u64 (acc : Int) (IntKind.u64.wrap (((z % 128 : Nat) : Int) * 2 ^ (7 * k))) = ((acc + z % 128 * 2 ^ (7 * k) : Nat) : Int)) := or_shift (k := k) (l := z % 128) hk9 hl h91 hlt2
              have HR : Hid (numR xs = numG (k + 1) (acc + z % 128 * 2 ^ (7 * k)) (xs.drop (k + 1))) := by
                show _ = _
                rw [HE.out, numG, if_neg (by simpa using hR), if_neg (by simp; omega), if_neg (by simpa using h128)]
                simp
              have HB : Hid (acc + z % 128 * 2 ^ (7 * k) < 18446744073709551616) := sum_lt hk9 hl h91 hlt2
              have HN : Hid (k + 1 ≤ 9 → acc + z % 128 * 2 ^ (7 * k) < 2 ^ (7 * (k + 1))) := fun _ => sum_lt_next hl hlt2
              clear HE hlt
              rcases (show k < 9 ∨ (k = 9 ∧ z % 128 ≤ 1) by omega) with h9 | ⟨rfl, h1⟩
              · clear hR h91 hF hlt2
                go_wp2
                go_round
                case rel => exact ⟨k + 1, acc + z % 128 * 2 ^ (7 * k), by omega, by go_num, congrArg _ (by have := H1.out; first | exact this | simpa using this), HB.out, HN, HR⟩
                case measure => simp [intOf]; omega
              · have H9 : Hid (bits .or .u64 (acc : Int) (((z % 128 : Nat) : Int) * 9223372036854775808) = ((acc + z % 128 * 2 ^ (7 * 9) : Nat) : Int)) := or_shift9 h1 hlt2
                clear hR h91 hF hlt2 H1
                go_wp2
                go_round
                case rel => exact ⟨9 + 1, acc + z % 128 * 2 ^ (7 * 9), by omega, by go_num, congrArg _ (by have := H9.out; first | exact this | simpa using this), HB.out, HN, HR⟩
                case measure => simp [intOf]; omega
            · have hl0 : z % 128 ≤ 0 := by omega
              have HR : Hid (numR xs = numG (k + 1) acc (xs.drop (k + 1))) := by
                show _ = _
                rw [HE.out, numG, if_neg (by simpa using hR), if_neg (by simp; omega), if_neg (by simpa using h128)]
                rw [show (z : Int).toNat % 128 = 0 by simp; omega]
                simp
              have HN : Hid (k + 1 ≤ 9 → acc < 2 ^ (7 * (k + 1))) := fun h => by omega
              clear HE hlt hR hF
              have h9 : 9 < k := by omega
              have hsh := shift_none (k := k) hl0
              have H0 := or_zero_u64 acc hacc
              go_wp2
              go_round
              case rel => exact ⟨k + 1, acc, by omega, by go_num, congrArg _ (by first | exact H0 | simpa using H0), hacc, HN, HR⟩
              case measure => simp [intOf]; omega
    · have HR : Hid (numR xs = (0, 0, 2)) := by
        show _ = _
        rw [he.out, List.drop_of_length_le (by omega)]
        rfl
      clear he hlt hr hx
      go_wp2
      go_ret3
      exact ⟨ret3 HR.out rfl rfl rfl, rfl⟩
end Go.Proofs.YtigojnpjpagfjaaDoor.M

namespace Go.Proofs.YtigojnpjpagfjaaDoor.M
open Go.ChangeShapes Go.WideShapes Go.ChangeAt Go.RowKit

/-- Four bytes, the highest first. -/
def sum4 (s : Nat) : List Int := [((s / 16777216 % 256 : Nat) : Int), ((s / 65536 % 256 : Nat) : Int), ((s / 256 % 256 : Nat) : Int), ((s % 256 : Nat) : Int)]

/-- The record of bytes. -/
def sealL (ys : List Int) : List Int := (putL ys.length ++ ys) ++ sum4 (sumN (putL ys.length ++ ys))

theorem sum4_by (s : Nat) : By (sum4 s) := By.cons (by omega) (By.cons (by omega) (By.cons (by omega) (By.cons (by omega) By.nil)))

theorem sealL_by {ys : List Int} (h : By ys) : By (sealL ys) := By.app (By.app (putL_by _) h) (sum4_by _)

theorem Rd.list (k : IntKind) (w : World) (e : TypeId) (zs : List Int) : Rd k (w.alloc (.cells (zs.map (Value.int k)).toArray e)) (some ⟨w.heap.size, 0, none⟩) zs.length zs.length zs := by
  refine ⟨rfl, Nat.le_refl _, (fun h => by cases h), fun _ => ⟨w.heap.size, 0, rfl, fun i hi => ?_⟩⟩
  rw [cell_of_row _ w.heap.size (0 + i) _ e (0, 0) (heap_alloc_new w _)]
  rw [Nat.zero_add, List.getElem?_toArray, List.getElem?_map, List.getD_eq_getElem?_getD, List.getElem?_eq_getElem hi]
  rfl

theorem Rd.four (k : IntKind) (w : World) (e : TypeId) (a b c d : Int) : Rd k (w.alloc (.cells #[.int k a, .int k b, .int k c, .int k d] e)) (some ⟨w.heap.size, 0, none⟩) 4 4 [a, b, c, d] := Rd.list k w e [a, b, c, d]

theorem sum4_eq (s : Nat) (h : s < 4294967296) : sum4 s = [(s : Int) / 16777216, (s : Int) / 65536 % 256, (s : Int) / 256 % 256, (s : Int) % 256] := by
  unfold sum4
  rw [show ((s / 16777216 % 256 : Nat) : Int) = (s : Int) / 16777216 by omega]
  rfl

end Go.Proofs.YtigojnpjpagfjaaDoor.M

namespace Go.Proofs.YtigojnpjpagfjaaDoor.M
open Go.RowKit

theorem pow7_succ (i : Nat) : 2 ^ (7 * (i + 1)) = 128 * 2 ^ (7 * i) := by rw [show 7 * (i + 1) = 7 * i + 7 by omega, Nat.pow_add, Nat.mul_comm]

theorem pow7_pos (i : Nat) : 0 < 2 ^ (7 * i) := Nat.pow_pos (by decide)

theorem mul_split (m p : Nat) : m * p = m % 128 * p + m / 128 * (128 * p) := by
  have h := Nat.mod_add_div m 128
  have e : m * p = (m % 128 + 128 * (m / 128)) * p := by rw [h]
  rw [e, Nat.add_mul, Nat.mul_assoc, Nat.mul_left_comm]

/-- The number has room at place i. -/
theorem room_small {i m : Nat} (hi : i ≤ 9) (hm : m * 2 ^ (7 * i) < 18446744073709551616) : i = 9 → m ≤ 1 := by
  rintro rfl
  have e : (2 : Nat) ^ (7 * 9) = 9223372036854775808 := by decide
  rw [e] at hm
  omega

theorem room_great {i m : Nat} (hi : i ≤ 9) (hm : m * 2 ^ (7 * i) < 18446744073709551616) (h : 128 ≤ m) : i < 9 := by
  rcases Nat.lt_or_ge i 9 with h1 | h1
  · exact h1
  · have := room_small hi hm (by omega)
    omega

theorem toNat128 (m : Nat) : (((128 + m % 128 : Nat) : Int)).toNat = 128 + m % 128 := rfl

theorem numG_putL (m : Nat) : ∀ (i acc : Nat) (rest : List Int), i ≤ 9 → m * 2 ^ (7 * i) < 18446744073709551616 → (0 < m ∨ i = 0) →
    numG i acc (putL m ++ rest) = (acc + m * 2 ^ (7 * i), i + (putL m).length, 0) := by
  induction m using Nat.strongRecOn with
  | _ m ih =>
    intro i acc rest hi hm h0
    by_cases h : m < 128
    · rw [putL_small h]
      have h9 := room_small hi hm
      have e : ((m : Int)).toNat = m := rfl
      simp only [List.cons_append, List.nil_append, numG, e, List.length_cons, List.length_nil]
      rw [if_neg (by omega), if_neg (by omega), if_pos h, show m % 128 = m by omega]
    · rw [putL_great (by omega)]
      have h9 := room_great hi hm (by omega)
      simp only [List.cons_append, numG, toNat128, List.length_cons]
      rw [if_neg (by omega), if_neg (by omega), if_neg (by omega), show (128 + m % 128) % 128 = m % 128 by omega]
      have hs := mul_split m (2 ^ (7 * i))
      rw [ih (m / 128) (by omega) (i + 1) _ rest (by omega) (by rw [pow7_succ]; omega) (Or.inl (by omega)), pow7_succ]
      rw [show acc + m % 128 * 2 ^ (7 * i) + m / 128 * (128 * 2 ^ (7 * i)) = acc + m * 2 ^ (7 * i) by omega, show i + 1 + (putL (m / 128)).length = i + ((putL (m / 128)).length + 1) by omega]

theorem numR_putL {m : Nat} (h : m < 18446744073709551616) (rest : List Int) : numR (putL m ++ rest) = (m, (putL m).length, 0) := by
  unfold numR
  rw [numG_putL m 0 0 rest (by decide) (by simpa using h) (Or.inr rfl)]
  simp

theorem numG_cut (m : Nat) : ∀ (i acc t : Nat), i ≤ 9 → m * 2 ^ (7 * i) < 18446744073709551616 → t < (putL m).length → numG i acc ((putL m).take t) = (0, 0, 2) := by
  induction m using Nat.strongRecOn with
  | _ m ih =>
    intro i acc t hi hm ht
    by_cases h : m < 128
    · rw [putL_small h] at ht ⊢
      obtain rfl : t = 0 := by simpa using ht
      rfl
    · rw [putL_great (by omega)] at ht ⊢
      have h9 := room_great hi hm (by omega)
      cases t with
      | zero => rfl
      | succ t =>
        simp only [List.take_succ_cons, numG, toNat128]
        rw [if_neg (by omega), if_neg (by omega), if_neg (by omega)]
        have hs := mul_split m (2 ^ (7 * i))
        exact ih (m / 128) (by omega) (i + 1) _ t (by omega) (by rw [pow7_succ]; omega) (by simpa using ht)

theorem numR_cut {m t : Nat} (h : m < 18446744073709551616) (ht : t < (putL m).length) : numR ((putL m).take t) = (0, 0, 2) :=
  numG_cut m 0 0 t (by decide) (by simpa using h) ht

/-- Past the tenth byte there is no number. -/
theorem numG_past : ∀ (xs : List Int) (i acc : Nat), By xs → 9 < i → (numG i acc xs).2.2 ≠ 0
  | [], i, acc, _, _ => by simp [numG]
  | c :: r, i, acc, hb, hi => by
    have hc := hb c (by simp)
    simp only [numG]
    by_cases h1 : 0 < c.toNat % 128
    · rw [if_pos (Or.inr ⟨hi, h1⟩)]; decide
    · rw [if_neg (by omega)]
      by_cases h2 : c.toNat = 0
      · rw [if_pos ⟨h2, by omega⟩]; decide
      · rw [if_neg (by omega), if_neg (by omega)]
        exact numG_past r (i + 1) _ (fun y hy => hb y (by simp [hy])) (by omega)

theorem word_split {i : Nat} (h : i ≤ 8) : 18446744073709551616 = 128 * 2 ^ (7 * i) * 2 ^ (57 - 7 * i) := by
  rw [← pow7_succ, ← Nat.pow_add, show 7 * (i + 1) + (57 - 7 * i) = 64 by omega]

theorem numG_form : ∀ (xs : List Int) (i acc : Nat), By xs → i ≤ 9 → (numG i acc xs).2.2 = 0 →
    ∃ m, m * 2 ^ (7 * i) < 18446744073709551616 ∧ (0 < m ∨ i = 0) ∧ numG i acc xs = (acc + m * 2 ^ (7 * i), i + (putL m).length, 0) ∧ ∃ rest, xs = putL m ++ rest
  | [], i, acc, _, _, h => by simp [numG] at h
  | c :: r, i, acc, hb, hi, h => by
    have hc := hb c (by simp)
    simp only [numG] at h ⊢
    by_cases h1 : (i = 9 ∧ 1 < c.toNat % 128) ∨ (9 < i ∧ 0 < c.toNat % 128)
    · rw [if_pos h1] at h; simp at h
    · rw [if_neg h1] at h ⊢
      by_cases h2 : c.toNat = 0 ∧ 0 < i
      · rw [if_pos h2] at h; simp at h
      · rw [if_neg h2] at h ⊢
        by_cases h3 : c.toNat < 128
        · rw [if_pos h3]
          have hsh := shift_lt (k := i) (l := c.toNat % 128) hi (by omega) (by omega)
          have e : c.toNat % 128 = c.toNat := by omega
          rw [e] at hsh ⊢
          have ec : ((c.toNat : Nat) : Int) = c := by omega
          refine ⟨c.toNat, by omega, by omega, ?_, r, ?_⟩
          · rw [putL_small h3]; rfl
          · rw [putL_small h3, ec]; rfl
        · rw [if_neg h3] at h ⊢
          by_cases h9 : i < 9
          · obtain ⟨m, hm1, hm2, hm3, rest, hm4⟩ := numG_form r (i + 1) _ (fun y hy => hb y (by simp [hy])) (by omega) h
            have hm0 : 0 < m := by omega
            have hs := mul_split (c.toNat % 128 + 128 * m) (2 ^ (7 * i))
            have d1 : (c.toNat % 128 + 128 * m) % 128 = c.toNat % 128 := by omega
            have d2 : (c.toNat % 128 + 128 * m) / 128 = m := by omega
            rw [d1, d2] at hs
            have hg : putL (c.toNat % 128 + 128 * m) = c :: putL m := by
              rw [putL_great (by omega), d1, d2]
              congr 1
              omega
            rw [pow7_succ] at hm1 hm3
            refine ⟨c.toNat % 128 + 128 * m, ?_, Or.inl (by omega), ?_, rest, ?_⟩
            · have hlt : c.toNat % 128 * 2 ^ (7 * i) < 128 * 2 ^ (7 * i) := Nat.mul_lt_mul_of_pos_right (by omega) (pow7_pos i)
              have hd := word_split (i := i) (by omega)
              rw [hs]
              generalize hQ : 128 * 2 ^ (7 * i) = Q at hm1 hlt hd ⊢
              generalize hT : 2 ^ (57 - 7 * i) = T at hd
              rw [hd, Nat.mul_comm m Q] at hm1
              have : m < T := Nat.lt_of_mul_lt_mul_left hm1
              have h2 : Q * (m + 1) ≤ Q * T := Nat.mul_le_mul (Nat.le_refl _) this
              rw [Nat.mul_add, Nat.mul_one] at h2
              rw [Nat.mul_comm m Q]
              omega
            · rw [hm3, hg, hs, List.length_cons]
              rw [show acc + c.toNat % 128 * 2 ^ (7 * i) + m * (128 * 2 ^ (7 * i)) = acc + (c.toNat % 128 * 2 ^ (7 * i) + m * (128 * 2 ^ (7 * i))) by omega, show i + 1 + (putL m).length = i + ((putL m).length + 1) by omega]
            · rw [hg, hm4]; rfl
          · exact absurd h (numG_past r (i + 1) _ (fun y hy => hb y (by simp [hy])) (by omega))

theorem numR_form {xs : List Int} (hb : By xs) (h : (numR xs).2.2 = 0) : ∃ m, m < 18446744073709551616 ∧ numR xs = (m, (putL m).length, 0) ∧ ∃ rest, xs = putL m ++ rest := by
  obtain ⟨m, h1, _, h3, h4⟩ := numG_form xs 0 0 hb (by decide) h
  refine ⟨m, by simpa using h1, ?_, h4⟩
  unfold numR
  rw [h3]; simp

end Go.Proofs.YtigojnpjpagfjaaDoor.M

namespace Go.Proofs.YtigojnpjpagfjaaDoor.M
open Go.RowKit

/-- The number in the first four bytes, the highest first. -/
def get4 (l : List Int) : Nat := (l.take 4).foldl (fun s x => s * 256 + x.toNat) 0

/-- The record with which bytes begin: its bytes, how many it has in all, the error. -/
def openR (xs : List Int) : List Int × Nat × Nat :=
  if (numR xs).2.2 ≠ 0 then ([], 0, (numR xs).2.2)
  else if 8192 < (numR xs).1 then ([], 0, 4)
  else if xs.length - (numR xs).2.1 < (numR xs).1 then ([], 0, 2)
  else if xs.length - ((numR xs).2.1 + (numR xs).1) < 4 then ([], 0, 2)
  else if get4 (xs.drop ((numR xs).2.1 + (numR xs).1)) ≠ sumN (xs.take ((numR xs).2.1 + (numR xs).1)) then ([], 0, 11)
  else ((xs.drop (numR xs).2.1).take (numR xs).1, (numR xs).2.1 + (numR xs).1 + 4, 0)

theorem get4_sum4 {s : Nat} (h : s < 4294967296) (rest : List Int) : get4 (sum4 s ++ rest) = s := by
  show (((0 * 256 + ((s / 16777216 % 256 : Nat) : Int).toNat) * 256 + ((s / 65536 % 256 : Nat) : Int).toNat) * 256 + ((s / 256 % 256 : Nat) : Int).toNat) * 256 + ((s % 256 : Nat) : Int).toNat = s
  simp only [Int.toNat_natCast]
  omega

theorem sum4_get4 {a b c d : Int} (rest : List Int) (ha : 0 ≤ a ∧ a < 256) (hb : 0 ≤ b ∧ b < 256) (hc : 0 ≤ c ∧ c < 256) (hd : 0 ≤ d ∧ d < 256) : sum4 (get4 (a :: b :: c :: d :: rest)) = [a, b, c, d] := by
  have e : get4 (a :: b :: c :: d :: rest) = ((a.toNat * 256 + b.toNat) * 256 + c.toNat) * 256 + d.toNat := by
    show (((0 * 256 + a.toNat) * 256 + b.toNat) * 256 + c.toNat) * 256 + d.toNat = _
    omega
  rw [e]
  unfold sum4
  congr 1
  · omega
  congr 1
  · omega
  congr 1
  · omega
  congr 1
  omega

theorem length_sum4 (s : Nat) : (sum4 s).length = 4 := rfl

theorem length_sealL (ys : List Int) : (sealL ys).length = (putL ys.length).length + ys.length + 4 := by
  unfold sealL
  simp only [List.length_append, length_sum4]

theorem sealL_app (ys rest : List Int) : sealL ys ++ rest = putL ys.length ++ (ys ++ (sum4 (sumN (putL ys.length ++ ys)) ++ rest)) := by
  unfold sealL
  simp only [List.append_assoc]

theorem openR_seal {ys : List Int} (hl : ys.length ≤ 8192) (rest : List Int) : openR (sealL ys ++ rest) = (ys, (sealL ys).length, 0) := by
  have hn : numR (sealL ys ++ rest) = (ys.length, (putL ys.length).length, 0) := by rw [sealL_app]; exact numR_putL (by omega) _
  have hlen : (sealL ys ++ rest).length = (putL ys.length).length + ys.length + 4 + rest.length := by rw [List.length_append, length_sealL]
  have hd1 : (sealL ys ++ rest).drop (putL ys.length).length = ys ++ (sum4 (sumN (putL ys.length ++ ys)) ++ rest) := by
    rw [sealL_app, List.drop_left]
  have hd2 : (sealL ys ++ rest).drop ((putL ys.length).length + ys.length) = sum4 (sumN (putL ys.length ++ ys)) ++ rest := by
    rw [← List.drop_drop, hd1, List.drop_left]
  have ht2 : (sealL ys ++ rest).take ((putL ys.length).length + ys.length) = putL ys.length ++ ys := by
    rw [sealL_app, ← List.append_assoc, ← List.length_append, List.take_left]
  unfold openR
  rw [hn]
  simp only
  rw [if_neg (by simp), if_neg (by omega), if_neg (by rw [hlen]; omega), if_neg (by rw [hlen]; omega), hd2, ht2, get4_sum4 (sumN_lt _), if_neg (by simp), hd1, List.take_left, length_sealL]

theorem openR_cut {ys : List Int} (hl : ys.length ≤ 8192) {t : Nat} (ht : t < (sealL ys).length) : openR ((sealL ys).take t) = ([], 0, 2) := by
  have hs : sealL ys = putL ys.length ++ (ys ++ sum4 (sumN (putL ys.length ++ ys))) := by
    have := sealL_app ys []
    simpa using this
  have hlen := length_sealL ys
  by_cases h1 : t < (putL ys.length).length
  · have hn : numR ((sealL ys).take t) = (0, 0, 2) := by
      rw [hs, List.take_append_of_le_length (by omega)]
      exact numR_cut (by omega) h1
    unfold openR
    rw [hn, if_pos (by simp)]
  · have hn : numR ((sealL ys).take t) = (ys.length, (putL ys.length).length, 0) := by
      rw [hs, List.take_append, List.take_of_length_le (by omega)]
      exact numR_putL (by omega) _
    have hl2 : ((sealL ys).take t).length = t := by rw [List.length_take]; omega
    unfold openR
    rw [hn, hl2]
    simp only
    rw [if_neg (by simp), if_neg (by omega)]
    by_cases h2 : t - (putL ys.length).length < ys.length
    · rw [if_pos h2]
    · rw [if_neg h2, if_pos (by omega)]

theorem four_of {l : List Int} (h : 4 ≤ l.length) : ∃ a b c d rest, l = a :: b :: c :: d :: rest := by
  match l, h with
  | a :: b :: c :: d :: rest, _ => exact ⟨a, b, c, d, rest, rfl⟩

theorem By.drop {xs : List Int} (h : By xs) (k : Nat) : By (xs.drop k) := fun x hx => h x (List.mem_of_mem_drop hx)

theorem openR_form {xs : List Int} (hb : By xs) (h : (openR xs).2.2 = 0) :
    ∃ d rest, openR xs = (d, (sealL d).length, 0) ∧ d.length ≤ 8192 ∧ By d ∧ xs = sealL d ++ rest := by
  unfold openR at h ⊢
  by_cases h1 : (numR xs).2.2 ≠ 0
  · rw [if_pos h1] at h
    exact absurd h h1
  · rw [if_neg h1] at h ⊢
    obtain ⟨m, hm, hn, rest, hxs⟩ := numR_form hb (Classical.not_not.1 h1)
    rw [hn] at h ⊢
    simp only at h ⊢
    by_cases h2 : 8192 < m
    · rw [if_pos h2] at h; simp at h
    · rw [if_neg h2] at h ⊢
      by_cases h3 : xs.length - (putL m).length < m
      · rw [if_pos h3] at h; simp at h
      · rw [if_neg h3] at h ⊢
        by_cases h4 : xs.length - ((putL m).length + m) < 4
        · rw [if_pos h4] at h; simp at h
        · rw [if_neg h4] at h ⊢
          by_cases h5 : get4 (xs.drop ((putL m).length + m)) ≠ sumN (xs.take ((putL m).length + m))
          · rw [if_pos h5] at h; simp at h
          · rw [if_neg h5]
            have h5' := Classical.not_not.1 h5
            have hlen : xs.length = (putL m).length + rest.length := by rw [hxs, List.length_append]
            have hd : xs.drop (putL m).length = rest := by rw [hxs, List.drop_left]
            have hdm : xs.drop ((putL m).length + m) = rest.drop m := by rw [← List.drop_drop, hd]
            have htm : xs.take ((putL m).length + m) = putL m ++ rest.take m := by
              rw [hxs, List.take_append, List.take_of_length_le (by omega)]
              congr 1
              congr 1
              omega
            rw [hd]
            have hdl : (rest.take m).length = m := by rw [List.length_take]; omega
            obtain ⟨a, b, c, d, r2, hr2⟩ := four_of (l := rest.drop m) (by rw [List.length_drop]; omega)
            have hbr : By (rest.drop m) := by rw [← hdm]; exact hb.drop _
            rw [hr2] at hbr
            have hsum : sum4 (sumN (putL m ++ rest.take m)) = [a, b, c, d] := by
              rw [← htm, ← h5', hdm, hr2]
              exact sum4_get4 r2 (hbr a (by simp)) (hbr b (by simp)) (hbr c (by simp)) (hbr d (by simp))
            refine ⟨rest.take m, r2, ?_, by omega, ?_, ?_⟩
            · rw [length_sealL, hdl]
            · intro y hy
              exact hb y (by rw [hxs]; exact List.mem_append_right _ (List.mem_of_mem_take hy))
            · rw [sealL_app, hdl, hsum, hxs]
              congr 1
              have := List.take_append_drop m rest
              rw [hr2] at this
              exact this.symm

theorem putL_len_mono (b : Nat) : ∀ a, a ≤ b → (putL a).length ≤ (putL b).length := by
  induction b using Nat.strongRecOn with
  | _ b ih =>
    intro a h
    by_cases ha : a < 128
    · have := putL_pos b
      rw [putL_small ha]
      exact this
    · rw [putL_great (m := a) (by omega), putL_great (m := b) (by omega), List.length_cons, List.length_cons]
      have := ih (b / 128) (by omega) (a / 128) (by omega)
      omega

theorem sealL_len_inj {a b : List Int} (h : (sealL a).length = (sealL b).length) : a.length = b.length := by
  rw [length_sealL, length_sealL] at h
  rcases Nat.lt_trichotomy a.length b.length with h1 | h1 | h1
  · have := putL_len_mono _ _ (Nat.le_of_lt h1); omega
  · exact h1
  · have := putL_len_mono _ _ (Nat.le_of_lt h1); omega

/-! The sum tells bytes apart that differ in one place. -/

theorem xor_ge (a : Nat) (h : a < 2147483648) : 2147483648 ≤ a ^^^ 2197175160 := by
  rcases Nat.lt_or_ge (a ^^^ 2197175160) 2147483648 with h1 | h1
  · exfalso
    have h2 : (a ^^^ 2197175160) ^^^ a < 2147483648 := Nat.xor_lt_two_pow (n := 31) h1 h
    rw [Nat.xor_comm a, Nat.xor_assoc, Nat.xor_self, Nat.xor_zero] at h2
    exact absurd h2 (by decide)
  · exact h1

theorem xor_cancel_right {a b c : Nat} (h : a ^^^ c = b ^^^ c) : a = b := by
  have h1 := congrArg (fun z => z ^^^ c) h
  simp only [Nat.xor_assoc, Nat.xor_self, Nat.xor_zero] at h1
  exact h1

theorem crcStep_inj {a b : Nat} (ha : a < 4294967296) (hb : b < 4294967296) (h : crcStep a = crcStep b) : a = b := by
  unfold crcStep at h
  by_cases h1 : a % 2 = 1
  · by_cases h2 : b % 2 = 1
    · rw [if_pos h1, if_pos h2] at h
      have := xor_cancel_right h
      omega
    · rw [if_pos h1, if_neg h2] at h
      have := xor_ge (a / 2) (by omega)
      omega
  · by_cases h2 : b % 2 = 1
    · rw [if_neg h1, if_pos h2] at h
      have := xor_ge (b / 2) (by omega)
      omega
    · rw [if_neg h1, if_neg h2] at h
      omega

theorem crcIt_inj {a b : Nat} (ha : a < 4294967296) (hb : b < 4294967296) : ∀ j, crcIt j a = crcIt j b → a = b
  | 0, h => h
  | j + 1, h => crcIt_inj ha hb j (crcStep_inj (crcIt_lt ha j) (crcIt_lt hb j) h)

theorem crcFrom_inj : ∀ {xs : List Int} {a b : Nat}, By xs → a < 4294967296 → b < 4294967296 → crcFrom a xs = crcFrom b xs → a = b
  | [], _, _, _, _, _, h => h
  | x :: xs, a, b, hx, ha, hb, h => by
    have h1 := hx x (by simp)
    have ha' := xor_lt32 ha (b := x.toNat) (by omega)
    have hb' := xor_lt32 hb (b := x.toNat) (by omega)
    have := crcFrom_inj (xs := xs) (fun y hy => hx y (by simp [hy])) (crcIt_lt ha' 8) (crcIt_lt hb' 8) h
    exact xor_cancel_right (crcIt_inj ha' hb' 8 this)

theorem crcFrom_app (c : Nat) (xs ys : List Int) : crcFrom c (xs ++ ys) = crcFrom (crcFrom c xs) ys := by
  unfold crcFrom
  rw [List.foldl_append]

theorem sumN_one {A B : List Int} {x y : Int} (hA : By A) (hB : By B) (hx : 0 ≤ x ∧ x < 256) (hy : 0 ≤ y ∧ y < 256) (h : sumN (A ++ x :: B) = sumN (A ++ y :: B)) : x = y := by
  unfold sumN at h
  have hc := crcFrom_lt hA (c := 4294967295) (by decide)
  have h1 := crcFrom_lt (By.app hA (By.cons hx hB)) (c := 4294967295) (by decide)
  have h2 := crcFrom_lt (By.app hA (By.cons hy hB)) (c := 4294967295) (by decide)
  have e : crcFrom 4294967295 (A ++ x :: B) = crcFrom 4294967295 (A ++ y :: B) := by omega
  rw [crcFrom_app, crcFrom_app] at e
  have hx' := xor_lt32 hc (b := x.toNat) (by omega)
  have hy' := xor_lt32 hc (b := y.toNat) (by omega)
  have e2 := crcFrom_inj hB (crcIt_lt hx' 8) (crcIt_lt hy' 8) e
  have e3 := crcIt_inj hx' hy' 8 e2
  rw [Nat.xor_comm _ x.toNat, Nat.xor_comm _ y.toNat] at e3
  have e4 := xor_cancel_right e3
  omega

theorem sum4_inj {a b : Nat} (ha : a < 4294967296) (hb : b < 4294967296) (h : sum4 a = sum4 b) : a = b := by
  have h1 := get4_sum4 ha []
  have h2 := get4_sum4 hb []
  rw [h] at h1
  omega

/-- A record of which one byte is another one is no record of as many bytes. -/
theorem turned {ys : List Int} (hy : By ys) {A B : List Int} {x y : Int} (hs : sealL ys = A ++ x :: B) (hne : x ≠ y) (hyb : 0 ≤ y ∧ y < 256) (h0 : (openR (A ++ y :: B)).2.2 = 0) (hn : (openR (A ++ y :: B)).2.1 = (sealL ys).length) : False := by
  have hsb := sealL_by hy
  rw [hs] at hsb
  have hA : By A := fun z hz => hsb z (by simp [hz])
  have hB : By B := fun z hz => hsb z (by simp [hz])
  have hx := hsb x (by simp)
  obtain ⟨d, rest, ho, _, _, he⟩ := openR_form (By.app hA (By.cons hyb hB)) h0
  rw [ho] at hn
  simp only at hn
  have hlen : (A ++ y :: B).length = (sealL ys).length := by rw [hs]; simp
  have hrest : rest = [] := by
    have := congrArg List.length he
    rw [hlen, List.length_append, hn] at this
    exact List.length_eq_zero_iff.1 (by omega)
  rw [hrest, List.append_nil] at he
  have hdl := sealL_len_inj hn
  -- both are the same count, some bytes, and a sum
  have e1 : A ++ x :: B = (putL ys.length ++ ys) ++ sum4 (sumN (putL ys.length ++ ys)) := hs.symm
  have e2 : A ++ y :: B = (putL ys.length ++ d) ++ sum4 (sumN (putL ys.length ++ d)) := by rw [he]; unfold sealL; rw [hdl]
  have hl1 : (putL ys.length ++ ys).length = (putL ys.length ++ d).length := by simp [hdl]
  by_cases hin : A.length < (putL ys.length ++ ys).length
  · -- the turned byte lies ahead of the sum
    obtain ⟨C, hC⟩ : ∃ C, putL ys.length ++ ys = A ++ x :: C := by
      have h1 := congrArg (List.take (putL ys.length ++ ys).length) e1
      rw [List.take_left, List.take_append, List.take_of_length_le (by omega)] at h1
      obtain ⟨k, hk⟩ : ∃ k, (putL ys.length ++ ys).length - A.length = k + 1 := ⟨_, (Nat.succ_pred_eq_of_pos (by omega)).symm⟩
      rw [hk, List.take_succ_cons] at h1
      exact ⟨_, h1.symm⟩
    have hB1 : B = C ++ sum4 (sumN (putL ys.length ++ ys)) := by
      rw [hC, List.append_assoc] at e1
      have := List.append_cancel_left e1
      simpa [hC] using this
    have hC2 : putL ys.length ++ d = A ++ y :: C := by
      have h1 := congrArg (List.take (putL ys.length ++ d).length) e2
      rw [List.take_left, ← hl1, hC, hB1] at h1
      rw [← h1, show A ++ y :: (C ++ sum4 (sumN (putL ys.length ++ ys))) = (A ++ y :: C) ++ sum4 (sumN (putL ys.length ++ ys)) by simp]
      rw [show (A ++ x :: C).length = (A ++ y :: C).length by simp, List.take_left]
    have hB2 : B = C ++ sum4 (sumN (putL ys.length ++ d)) := by
      rw [hC2, List.append_assoc] at e2
      have := List.append_cancel_left e2
      simpa [hC2] using this
    have hss := List.append_cancel_left (hB1.symm.trans hB2)
    have hsn := sum4_inj (sumN_lt _) (sumN_lt _) hss
    rw [hC, hC2] at hsn
    have hCb : By C := fun z hz => hB z (by rw [hB1]; exact List.mem_append_left _ hz)
    exact hne (sumN_one hA hCb hx hyb hsn)
  · -- it lies in the sum: then the bytes ahead are the same, and so is the sum
    have hA1 : A.take (putL ys.length ++ ys).length = putL ys.length ++ ys := by
      have h1 := congrArg (List.take (putL ys.length ++ ys).length) e1
      rw [List.take_left, List.take_append_of_le_length (by omega)] at h1
      exact h1
    have hA2 : A.take (putL ys.length ++ ys).length = putL ys.length ++ d := by
      have h1 := congrArg (List.take (putL ys.length ++ ys).length) e2
      rw [hl1, List.take_left, ← hl1, List.take_append_of_le_length (by omega)] at h1
      exact h1
    have hsame : putL ys.length ++ ys = putL ys.length ++ d := hA1.symm.trans hA2
    rw [← hsame] at e2
    have := e1.trans e2.symm
    have := List.append_cancel_left this
    exact hne (List.cons.inj this).1

end Go.Proofs.YtigojnpjpagfjaaDoor.M

namespace Go.Proofs.YtigojnpjpagfjaaDoor.M
open Go.ChangeShapes Go.WideShapes Go.ChangeAt Go.RowKit

theorem Rd.sub {k : IntKind} {w : World} {b o n c : Nat} {xs : List Int} (h : Rd k w (some ⟨b, o, none⟩) n c xs) (a m d : Nat) (h1 : a + m ≤ n) (h2 : m ≤ d) : Rd k w (some ⟨b, o + a, none⟩) m d ((xs.drop a).take m) := by
  have hl := h.len
  refine ⟨by rw [List.length_take, List.length_drop]; omega, h2, (fun e => by cases e), fun hm => ⟨b, o + a, rfl, fun i hi => ?_⟩⟩
  obtain ⟨b', o', he, hc⟩ := h.cells (by omega)
  cases he
  have := hc (a + i) (by omega)
  rw [show o + a + i = o + (a + i) by omega, this]
  rw [List.getD_eq_getElem?_getD, List.getD_eq_getElem?_getD, List.getElem?_take, if_pos hi, List.getElem?_drop]

theorem ret_chunk (p : Option Addr) (a v : Nat) : Ending.returned (.tuple #[.slice p (a + v - a) (a + v - a), .int .i64 ((a : Int) + (v : Int)), .int .i64 0]) = .returned (.tuple #[.slice p v v, .int .i64 ((a + v : Nat) : Int), .int .i64 0]) := by
  rw [Nat.add_sub_cancel_left, Int.natCast_add]

theorem or_byte_u32 (s z : Nat) (hs : s < 16777216) (hz : z < 256) : bits .or .u32 ((s : Int) * 256) (z : Int) = ((s * 256 + z : Nat) : Int) := by
  rw [show (s : Int) * 256 = ((s * 256 : Nat) : Int) by omega, u32_or_nat (s * 256) z (by omega) (by omega), nat_join 8 (s * 256) z (by omega) (by omega)]

/-- The number in the first bytes. -/
def getN (l : List Int) : Nat := l.foldl (fun s x => s * 256 + x.toNat) 0

theorem getN_snoc {l : List Int} {k : Nat} (h : k < l.length) : getN (l.take (k + 1)) = getN (l.take k) * 256 + (l.getD k 0).toNat := by
  unfold getN
  rw [take_snoc h, List.foldl_append]
  rfl

theorem getN_lt {l : List Int} (hb : By l) : getN l < 256 ^ l.length := by
  have key : ∀ (l : List Int) (s n : Nat), By l → s < 256 ^ n → l.foldl (fun s x => s * 256 + x.toNat) s < 256 ^ (n + l.length) := by
    intro l
    induction l with
    | nil => intro s n _ h; simpa using h
    | cons x r ih =>
      intro s n hb h
      have hx := hb x (by simp)
      have := ih (s * 256 + x.toNat) (n + 1) (fun y hy => hb y (by simp [hy])) (by rw [Nat.pow_succ]; omega)
      rw [List.length_cons, show n + (r.length + 1) = n + 1 + r.length by omega]
      exact this
  have := key l 0 0 hb (by simp)
  simpa [getN] using this

end Go.Proofs.YtigojnpjpagfjaaDoor.M

namespace Go.Proofs.YtigojnpjpagfjaaDoor.M
open Go.ChangeShapes Go.WideShapes Go.ChangeAt Go.RowKit

theorem Rd.drewN {k : IntKind} {w : World} {p : Option Addr} {n c : Nat} {xs : List Int} (h : Rd k w p n c xs) (i : Nat) : Rd k (w.drewN i) p n c xs :=
  h.below (below_drewN (Below.refl _ _) i)

theorem num_room {xs : List Int} (hb : By xs) (h : (numR xs).2.2 = 0) : 0 < (numR xs).2.1 ∧ (numR xs).2.1 ≤ xs.length ∧ (numR xs).2.1 ≤ 10 := by
  obtain ⟨m, hm, hn, rest, hx⟩ := numR_form hb h
  rw [hn, hx, List.length_append]
  exact ⟨putL_pos m, Nat.le_add_right _ _, putL_len hm⟩

theorem ret_open (p : Option Addr) (v c a : Nat) : Ending.returned (.tuple #[.slice p v c, .int .i64 ((a : Int) + (v : Int) + 4), .int .i64 0]) = .returned (.tuple #[.slice p v c, .int .i64 ((a + v + 4 : Nat) : Int), .int .i64 0]) := by
  rw [Int.natCast_add, Int.natCast_add]; rfl

end Go.Proofs.YtigojnpjpagfjaaDoor.M

namespace Go.Proofs.YtigojnpjpagfjaaDoor.M
open Go.ChangeShapes Go.WideShapes Go.ChangeAt Go.RowKit

/-- A reader in block g: the bytes that are not read, the first error. -/
structure Rdr (w : World) (g : Nat) (p : Option Addr) (n c : Nat) (xs : List Int) (err : Nat) : Prop where
  made : w.cell? ⟨g, 0, none⟩ = some (.bool true)
  rest : w.cell? ⟨g, 1, none⟩ = some (.slice p n c)
  err : w.cell? ⟨g, 2, none⟩ = some (.int .i64 err)
  free : ∀ j, w.frozen? ⟨g, j, none⟩ = false
  rd : Rd .u8 w p n c xs
  far : ∀ b o, 0 < n → p = some ⟨b, o, none⟩ → b < g
  byt : By xs
  room : n ≤ 1099511627776

theorem Rdr.lt {w g p n c xs err} (h : Rdr w g p n c xs err) : g < w.heap.size := World.block_lt_of_cell? _ _ h.made

theorem grown_setCell (w : World) (g j : Nat) (v : Value) : w.grownBy (w.setCell ⟨g, j, none⟩ v) (some g) :=
  ⟨rfl, rfl, rfl, by simp [World.setCell], fun k _ hne => Below.heap_setCell _ _ _ _ (fun e => hne (by rw [e]))⟩

theorem Rd.kept {k : IntKind} {w w' : World} {p : Option Addr} {n c g : Nat} {xs : List Int} (h : Rd k w p n c xs) (hg : w.grownBy w' (some g)) (hf : ∀ b o, 0 < n → p = some ⟨b, o, none⟩ → b < g) : Rd k w' p n c xs := by
  refine ⟨h.len, h.cap, h.nil, fun hn => ?_⟩
  obtain ⟨b, o, hp, hc⟩ := h.cells hn
  have hbg := hf b o hn hp
  exact ⟨b, o, hp, fun i hi => hg.cell (hc i hi) (by simp; omega)⟩

theorem Ow.kept {k : IntKind} {e : TypeId} {w w' : World} {B : Nat} {p : Option Addr} {n c g : Nat} {xs : List Int} (h : Ow k e w B p n c xs) (hg : w.grownBy w' (some g)) (hB : g < B) : Ow k e w' B p n c xs := by
  refine ⟨h.len, ?_⟩
  rcases h.own with ho | ho
  · exact Or.inl ho
  · refine Or.inr (ho.kept hg ?_)
    rcases ho.2 with ⟨hv, _⟩ | ⟨g', cap, cur, hv, hg', _⟩
    · rw [hv]; exact Or.inl rfl
    · rw [hv]; exact Or.inr (by simp [Value.ownBlock]; omega)

theorem Rdr.below {w w' : World} {g : Nat} {p : Option Addr} {n c : Nat} {xs : List Int} {err B : Nat} (h : Rdr w g p n c xs err) (hb : Below B w w') (hg : g < B) : Rdr w' g p n c xs err := by
  refine ⟨?_, ?_, ?_, fun j => ?_, ?_, h.far, h.byt, h.room⟩
  · rw [hb.cell (p := ⟨g, 0, none⟩) hg]; exact h.made
  · rw [hb.cell (p := ⟨g, 1, none⟩) hg]; exact h.rest
  · rw [hb.cell (p := ⟨g, 2, none⟩) hg]; exact h.err
  · rw [hb.frozen (p := ⟨g, j, none⟩) hg]; exact h.free j
  · refine ⟨h.rd.len, h.rd.cap, h.rd.nil, fun hn => ?_⟩
    obtain ⟨b, o, hp, hc⟩ := h.rd.cells hn
    refine ⟨b, o, hp, fun i hi => ?_⟩
    rw [hb.cell (p := ⟨b, o + i, none⟩) (Nat.lt_trans (h.far b o hn hp) hg)]
    exact hc i hi

theorem addr_ne {g i j : Nat} (h : i ≠ j) : (⟨g, i, none⟩ : Addr) ≠ ⟨g, j, none⟩ := fun e => h (by injection e)

/-- Behind a store of the first error. -/
theorem Rdr.fail {w : World} {g : Nat} {p : Option Addr} {n c : Nat} {xs : List Int} {err : Nat} (h : Rdr w g p n c xs err) (e : Nat) : Rdr (w.setCell ⟨g, 2, none⟩ (.int .i64 e)) g p n c xs e := by
  refine ⟨?_, ?_, ?_, fun j => ?_, h.rd.kept (grown_setCell _ _ _ _) h.far, h.far, h.byt, h.room⟩
  · rw [World.cell?_setCell_other (h := addr_ne (by decide))]; exact h.made
  · rw [World.cell?_setCell_other (h := addr_ne (by decide))]; exact h.rest
  · exact World.cell?_setCell_same _ _ _ h.err
  · rw [World.frozen?_setCell]; exact h.free j

/-- Behind a store of what is left. -/
theorem Rdr.step {w : World} {g : Nat} {p : Option Addr} {n c : Nat} {xs : List Int} {err : Nat} (h : Rdr w g p n c xs err) {p' : Option Addr} {n' c' : Nat} {ys : List Int} (hr : Rd .u8 w p' n' c' ys) (hf : ∀ b o, 0 < n' → p' = some ⟨b, o, none⟩ → b < g) (hy : By ys) (hn : n' ≤ n) :
    Rdr (w.setCell ⟨g, 1, none⟩ (.slice p' n' c')) g p' n' c' ys err := by
  refine ⟨?_, ?_, ?_, fun j => ?_, hr.kept (grown_setCell _ _ _ _) hf, hf, hy, Nat.le_trans hn h.room⟩
  · rw [World.cell?_setCell_other (h := addr_ne (by decide))]; exact h.made
  · exact World.cell?_setCell_same _ _ _ h.rest
  · rw [World.cell?_setCell_other (h := addr_ne (by decide))]; exact h.err
  · rw [World.frozen?_setCell]; exact h.free j

set_option maxRecDepth 20000 in
theorem err_any (g : Nat) (p : Option Addr) (n c : Nat) (xs : List Int) (err : Nat) (w : World) (h : Rdr w g p n c xs err) :
    Calls Tryd.prog 84 #[.pointer (some ⟨g, 0, none⟩)] w fun e w' => e = .returned (.int .i64 err) ∧ w' = w := by
  have h1 := h.made
  have h2 := h.err
  clear h
  go_enter Tryd.func84, Tryd.ntmps84
  go_wp2
  go_ret
  exact ⟨rfl, rfl⟩

set_option maxRecDepth 20000 in
theorem read_any (p : Option Addr) (n c : Nat) (xs : List Int) (w : World) (hr : Rd .u8 w p n c xs) (hx : By xs) (hn : n ≤ 1099511627776) :
    Calls Tryd.prog 71 #[.slice p n c] w fun e w' => ∃ g p' c', e = .returned (.pointer (some ⟨g, 0, none⟩)) ∧ Rdr w' g p' n c' xs 0 ∧ w.heap.size ≤ g ∧ w'.heap.size = g + 1 ∧ Below w.heap.size w w' := by
  have ho := own_any p n c xs w hr (by omega)
  clear hr
  go_enter Tryd.func71, Tryd.ntmps71
  go_wp2_with (go_at_call 69; refine ho.mono ?_; rintro e w1 ⟨p1, c1, rfl, ho1, hb1⟩)
  go_ret
  have hlt : ∀ b o, 0 < n → p1 = some ⟨b, o, none⟩ → b < w1.heap.size := by
    intro b o h0 hp
    obtain ⟨b', o', hp', hc⟩ := ho1.rd.cells h0
    rw [hp] at hp'
    cases hp'
    exact World.block_lt_of_cell? _ _ (hc 0 h0)
  refine ⟨w1.heap.size, p1, c1, rfl, ⟨by simp, by simp, by simp, fun j => by simp, ho1.rd.below (below_alloc _ _), hlt, hx, hn⟩, hb1.size, by simp, hb1.trans ((below_alloc _ _).mono hb1.size)⟩

set_option maxRecDepth 20000 in
theorem step_err (g : Nat) (p : Option Addr) (n c : Nat) (xs : List Int) (err size e : Nat) (w : World) (h : Rdr w g p n c xs err) (he : 0 < e) :
    Calls Tryd.prog 86 #[.pointer (some ⟨g, 0, none⟩), .int .i64 size, .int .i64 e] w fun r w' => r = .returned (.tuple #[]) ∧ Rdr w' g p n c xs e ∧ w.grownBy w' (some g) := by
  have h2 := h.err
  have h3 := h.free 2
  have R := h.fail e
  have he' : ((e : Int) != 0) = true := by simp; omega
  clear h
  go_enter Tryd.func86, Tryd.ntmps86
  go_wp2
  exact bodyPost_ret (results_none (by kernel_rfl) _ _ _) rfl ⟨rfl, R, grown_setCell _ _ _ _⟩

set_option maxRecDepth 20000 in
theorem step_ok (g b o n c : Nat) (xs : List Int) (err size : Nat) (w : World) (h : Rdr w g (some ⟨b, o, none⟩) n c xs err) (h0 : 0 < size) (hs : size ≤ n) :
    Calls Tryd.prog 86 #[.pointer (some ⟨g, 0, none⟩), .int .i64 size, .int .i64 0] w fun r w' => r = .returned (.tuple #[]) ∧ (∃ p' c', Rdr w' g p' (n - size) c' (xs.drop size) err) ∧ w.grownBy w' (some g) := by
  have h1 := h.rest
  have h3 := h.free 1
  have hcap := h.rd.cap
  have hlen := h.rd.len
  by_cases hc : size = c
  · have hx0 : xs.drop size = [] := List.drop_of_length_le (by omega)
    have R := h.step (p' := some ⟨b, o, none⟩) (n' := 0) (c' := 0) (ys := []) (Rd.empty _ _ _ _ (fun _ => rfl)) (fun b o h0 => absurd h0 (Nat.lt_irrefl _)) By.nil (Nat.zero_le _)
    have hz : n - size = 0 := by omega
    have HZ : Hid (n - size = 0) := hz
    have HX : Hid (xs.drop size = []) := hx0
    obtain rfl : n = c := by omega
    subst hc
    clear h hx0 hz
    go_enter Tryd.func86, Tryd.ntmps86
    go_wp2
    go_end0
    exact ⟨rfl, ⟨_, _, by rw [HZ.out, HX.out]; exact R⟩, grown_setCell _ _ _ _⟩
  · have hsub : Rd .u8 w (some ⟨b, o + size, none⟩) (n - size) (c - size) (xs.drop size) := by
      have h := h.rd.sub size (n - size) (c - size) (by omega) (by omega)
      rw [List.take_of_length_le (by rw [List.length_drop, hlen]; exact Nat.le_refl _)] at h
      exact h
    have R := h.step hsub (fun b' o' h0 hp => by cases hp; exact h.far b o (by omega) rfl) (h.byt.drop _) (by omega)
    have hlt : size < c := by omega
    clear h hc hsub hlen
    go_enter Tryd.func86, Tryd.ntmps86
    go_wp2
    go_end0
    exact ⟨rfl, ⟨_, _, R⟩, grown_setCell _ _ _ _⟩

end Go.Proofs.YtigojnpjpagfjaaDoor.M
