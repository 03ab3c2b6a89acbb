/-
  Own text: contracts of the program's functions that put numbers and bytes behind bytes.
-/
import Derived.Test.YtphdbpljgilcgaaDoorRows
import Derived.Test.YtphdbpljgilcgaaDoorMem
import Derived.Test.YtphdbpljgilcgaaDoorPure
namespace Go.Proofs.YtphdbpljgilcgaaDoor.M
open Go.ChangeShapes Go.WideShapes Go.ChangeAt Go.RowKit

theorem info5 : (Tryd.prog.info? 5).map (fun i => (i.zero, i.size, i.bytes)) = some (some (.int .u8 0), 1, 1) := by kernel_rfl

theorem Rd.one (k : IntKind) (w : World) (e : TypeId) (x : Int) : Rd k (w.alloc (.cells #[.int k x] e)) (some ⟨w.heap.size, 0, none⟩) 1 1 [x] := by
  refine ⟨rfl, Nat.le_refl _, (fun h => by cases h), fun _ => ⟨w.heap.size, 0, rfl, fun i hi => ?_⟩⟩
  obtain rfl : i = 0 := by omega
  simp

theorem below_alloc (w : World) (o : Obj) : Below w.heap.size w (w.alloc o) := (Below.refl _ _).alloc (Nat.le_refl _) o

theorem Below.via {B : Nat} {a b c : World} (h : Below B a b) (k : Below b.heap.size b c) (hB : B ≤ a.heap.size) : Below B a c := h.trans (k.mono (Nat.le_trans hB h.size))

set_option maxRecDepth 20000 in
set_option maxHeartbeats 400000 in
theorem putNumber_any (B : Nat) (p : Option Addr) (n c : Nat) (xs : List Int) (m : Nat) (w : World) (ho : Ow .u8 5 w B p n c xs) (hB : B ≤ w.heap.size) (hm : m < 18446744073709551616) (hn : n ≤ 70368744177664) :
    Calls Tryd.prog 28 #[.slice p n c, .int .u64 m] w fun e w' => ∃ p' c', e = .returned (.slice p' (n + (putL m).length) c') ∧ Ow .u8 5 w' B p' (n + (putL m).length) c' (xs ++ putL m) ∧ Below B w w' := by
  obtain ⟨i0, hi, hz0, hz1, hz2⟩ := info_parts info5
  have hL : n + (putL m).length ≤ 80368744177664 := by have := putL_len hm; omega
  have hxl := ho.len
  go_enter Tryd.func28, Tryd.ntmps28
  go_wp2
  go_loopw [0, 1] (fun v q wr => ∃ (m' : Nat) (p' : Option Addr) (n' c' : Nat) (xs' : List Int), q = .int .u64 m' ∧ m' ≤ m ∧ v = .slice p' n' c' ∧ Ow .u8 5 wr B p' n' c' xs' ∧ Hid (xs' ++ putL m' = xs ++ putL m) ∧ Below B w wr) (fun _ q _ => (intOf q).toNat)
  case atStart => exact ⟨m, p, n, c, xs, rfl, Nat.le_refl _, rfl, ho, rfl, Below.refl _ _⟩
  case round =>
    obtain ⟨m', p', n', c', xs', rfl, hm', rfl, ho', he, hb⟩ := hrel
    have hle : n' + (putL m').length = n + (putL m).length := by
      have := congrArg List.length he.out
      simp only [List.length_append, ho'.len, hxl] at this
      exact this
    have hBr : B ≤ wr.heap.size := Nat.le_trans hB hb.size
    have HL : Hid (n' + (putL m').length = n + (putL m).length) := hle
    have hn1 : n' + 1 ≤ 80368744177664 := by have := putL_pos m'; omega
    clear hm hn ho hL hle hxl
    by_cases h : 128 ≤ m'
    · go_wp2_with (at_builtin; refine wpList_app _ rfl _ _ 27 rfl .u8 5 i0 (.int .u8 0) 1 Tryd.underlying27 hi hz0 hz1 hz2 rfl B _ _ _ xs' rfl (ho'.below (below_alloc _ _)) _ _ _ _ rfl (Rd.one _ _ _ _) ?c1 ?c2 ?c3 ?_)
      case c1 => omega
      case c2 => unfold maxLen; omega
      case c3 => simp; omega
      intro p2 c2 w2 ho2 hb2
      rw [or128] at ho2 hb2
      have R : Hid ((xs' ++ [((128 + m' % 128 : Nat) : Int)]) ++ putL (m' / 128) = xs ++ putL m) := by
        show _ = _
        rw [← he.out, putL_great h, List.append_assoc]
        rfl
      have hb3 : Below B w w2 := (hb.trans ((below_alloc _ _).mono hBr)).trans hb2
      clear he HL hb hb2 ho'
      go_wp2
      go_roundw
      case rel => exact ⟨m' / 128, p2, n' + 1, c2, _, by go_num, by omega, rfl, ho2, R, hb3⟩
      case measure => simp [intOf]; omega
    · go_wp2_with (at_builtin; refine wpList_app _ rfl _ _ 27 rfl .u8 5 i0 (.int .u8 0) 1 Tryd.underlying27 hi hz0 hz1 hz2 rfl B _ _ _ xs' rfl (ho'.below (below_alloc _ _)) _ _ _ _ rfl (Rd.one _ _ _ _) ?d1 ?d2 ?d3 ?_)
      case d1 => omega
      case d2 => unfold maxLen; omega
      case d3 => simp; omega
      intro p2 c2 w2 ho2 hb2
      have e : xs ++ putL m = xs' ++ [(m' : Int)] := by rw [← he.out, putL_small (by omega)]
      have e2 : n + (putL m).length = n' + 1 := by rw [← HL.out, putL_small (by omega)]; rfl
      have hb3 : Below B w w2 := (hb.trans ((below_alloc _ _).mono hBr)).trans hb2
      have R : ∃ p' c', Ending.returned (.slice p2 (n' + 1) c2) = .returned (.slice p' (n + (putL m).length) c') ∧ Ow .u8 5 w2 B p' (n + (putL m).length) c' (xs ++ putL m) ∧ Below B w w2 := by
        rw [e, e2]
        exact ⟨p2, c2, rfl, ho2, hb3⟩
      clear e e2 he HL hb hb2 ho' hb3 ho2
      go_wp2
      go_ret
      exact R

theorem app8 {ops : Array Oper} {rest : List Oper} {o : Oper} {a : Act} {Q : Exit → Act → World → Prop} (w : World) (hgd : o.guard = none) (s x : Operand)
    (hop : o.op = .call { callee := .builtin .append, args := #[s, x], argTypes := #[27, 27] })
    (B : Nat) (p : Option Addr) (n c : Nat) (xs : List Int) (hs : a.eval s = .slice p n c) (ho : Ow .u8 5 w B p n c xs)
    (q : Option Addr) (m d : Nat) (ys : List Int) (hx : a.eval x = .slice q m d) (hr : Rd .u8 w q m d ys) (hb : n + m ≤ 140737488355328) (hB : B ≤ w.heap.size)
    (h : ∀ p' c' w', Ow .u8 5 w' B p' (n + m) c' (xs ++ ys) → Below B w w' → wpList Tryd.prog ops Q rest (a.put o.dst (.slice p' (n + m) c')) w') : wpList Tryd.prog ops Q (o :: rest) a w := by
  obtain ⟨i0, hi, hz0, hz1, hz2⟩ := info_parts info5
  exact wpList_app w hgd s x 27 hop .u8 5 i0 (.int .u8 0) 1 Tryd.underlying27 hi hz0 hz1 hz2 rfl B p n c xs hs ho q m d ys hx hr (by omega) (by unfold maxLen; omega) hB h

theorem putNumber_int (B : Nat) (p : Option Addr) (n c : Nat) (xs : List Int) (z : Int) (w : World) (ho : Ow .u8 5 w B p n c xs) (hB : B ≤ w.heap.size) (h0 : 0 ≤ z) (hz : z < 18446744073709551616) (hn : n ≤ 70368744177664) :
    Calls Tryd.prog 28 #[.slice p n c, .int .u64 z] w fun e w' => ∃ p' c', e = .returned (.slice p' (n + (putL z.toNat).length) c') ∧ Ow .u8 5 w' B p' (n + (putL z.toNat).length) c' (xs ++ putL z.toNat) ∧ Below B w w' := by
  obtain ⟨m, rfl⟩ := Int.eq_ofNat_of_zero_le h0
  exact putNumber_any B p n c xs m w ho hB (by omega) hn

set_option maxRecDepth 20000 in
set_option maxHeartbeats 400000 in
theorem own_any (p : Option Addr) (n c : Nat) (xs : List Int) (w : World) (hr : Rd .u8 w p n c xs) (hn : n ≤ 140737488351232) :
    Calls Tryd.prog 27 #[.slice p n c] w fun e w' => ∃ p' c', e = .returned (.slice p' n c') ∧ Ow .u8 5 w' w.heap.size p' n c' xs ∧ Below w.heap.size w w' := by
  cases p with
  | none =>
    go_enter Tryd.func27, Tryd.ntmps27
    go_wp2_with (at_builtin; refine app8 _ rfl _ _ rfl w.heap.size _ _ _ [] rfl (Ow.empty _ _ _ _ _) _ _ _ xs rfl hr ?c1 ?c3 ?_)
    case c1 => omega
    case c3 => exact Nat.le_refl _
    intro p2 c2 w2 ho2 hb2
    go_wp2
    go_ret
    exact ⟨p2, c2, rfl, ho2, hb2⟩
  | some a =>
    go_enter Tryd.func27, Tryd.ntmps27
    go_wp2_with (at_builtin; refine app8 _ rfl _ _ rfl w.heap.size _ _ _ [] rfl (Ow.empty _ _ _ _ _) _ _ _ xs rfl hr ?d1 ?d3 ?_)
    case d1 => omega
    case d3 => exact Nat.le_refl _
    intro p2 c2 w2 ho2 hb2
    go_wp2
    go_ret
    exact ⟨p2, c2, rfl, ho2, hb2⟩

set_option maxRecDepth 20000 in
set_option maxHeartbeats 400000 in
theorem put_any (p : Option Addr) (n c : Nat) (xs : List Int) (q : Option Addr) (m d : Nat) (ls : List Int) (w : World) (hr : Rd .u8 w p n c xs) (hl : Rd .u64 w q m d ls) (hw : Wd ls) (hn : n ≤ 1099511627776) (hm : m ≤ 1099511627776) :
    Calls Tryd.prog 17 #[.slice p n c, .slice q m d] w fun e w' => ∃ p' c', e = .returned (.slice p' (n + (putAll ls).length) c') ∧ Ow .u8 5 w' w.heap.size p' (n + (putAll ls).length) c' (xs ++ putAll ls) ∧ Below w.heap.size w w' := by
  go_enter Tryd.func17, Tryd.ntmps17
  go_wp2_with (go_at_call 27; refine (own_any _ _ _ _ _ hr (by omega)).mono ?_; rintro e w1 ⟨p1, c1, rfl, ho1, hb1⟩)
  go_loopw [5, 12] (fun v q wr => ∃ (k : Nat) (p' : Option Addr) (n' c' : Nat), q = .int .i64 k ∧ k ≤ m ∧ v = .slice p' n' c' ∧ Ow .u8 5 wr w.heap.size p' n' c' (xs ++ putAll (ls.take k)) ∧ Below w.heap.size w wr) (fun _ q _ => m - (intOf q).toNat)
  case atStart => exact ⟨0, p1, n, c1, rfl, Nat.zero_le _, rfl, by simpa [putAll] using ho1, hb1⟩
  case round =>
    obtain ⟨k, p', n', c', rfl, hk, rfl, ho', hb⟩ := hrel
    have hlw := hl.below hb
    have hnl : n' ≤ n + 10 * k := by
      have h1 := ho'.len
      have h2 := putAll_len (hw.take k)
      have h3 := hr.len
      simp only [List.length_append, List.length_take] at h1 h2
      omega
    have hBr := hb.size
    have hll := hl.len
    have HX : Hid (xs.length = n) := hr.len
    clear ho1 hb1 hr
    by_cases h : k < m
    · obtain ⟨b, o, rfl, hc⟩ := hlw.cells (by omega)
      have hcx := hc k h
      have hz := hw (ls.getD k 0) (getD_mem (by omega))
      have hsn := putAll_snoc (l := ls) (k := k) (by omega)
      have HS : Hid (putAll (ls.take (k + 1)) = putAll (ls.take k) ++ putL (ls.getD k 0).toNat) := hsn
      clear hsn hc hlw hw hl hll
      generalize ls.getD k 0 = z at hcx hz HS
      go_wp2_with (go_at_call 28; refine (putNumber_int _ _ _ _ _ _ _ ho' hBr hz.1 hz.2 (by omega)).mono ?_; rintro e w2 ⟨p2, c2, rfl, ho2, hb2⟩)
      go_roundw
      case rel => exact ⟨k + 1, p2, _, c2, by go_num, by omega, rfl, by rw [HS.out, ← List.append_assoc]; exact ho2, hb.trans hb2⟩
      case measure => simp [intOf]; omega
    · obtain rfl : k = m := by omega
      have e1 : xs ++ putAll (ls.take k) = xs ++ putAll ls := by rw [List.take_of_length_le (by omega)]
      rw [e1] at ho'
      have e2 : n' = n + (putAll ls).length := by
        have h1 := ho'.len
        rw [List.length_append, HX.out] at h1
        exact h1.symm
      subst e2
      go_wp2
      go_ret
      exact ⟨p', c', rfl, ho', hb⟩
end Go.Proofs.YtphdbpljgilcgaaDoor.M
