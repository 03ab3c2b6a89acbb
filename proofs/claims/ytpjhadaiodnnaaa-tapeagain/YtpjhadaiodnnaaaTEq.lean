/-
  Own text: slices.Equal of texts.
-/
import Derived.Test.YtpjhadaiodnnaaaTState
import Derived.Lib.SlBytesConst
namespace Go.Proofs.Ytpjhadaiodnnaaa.M
open Go.ChangeShapes Go.WideShapes Go.ChangeAt Go.RowKit
set_option linter.unusedSimpArgs false

/-- Texts as values. -/
def txt (xs : List ByteArray) : List Value := xs.map .string

theorem txt_get {xs : List ByteArray} {k : Nat} (h : k < xs.length) : (txt xs).getD k undef = .string (xs.getD k ByteArray.empty) := by
  unfold txt
  simp [List.getD_eq_getElem?_getD, List.getElem?_eq_getElem h]

theorem take_snocB {l : List ByteArray} {k : Nat} (h : k < l.length) : l.take (k + 1) = l.take k ++ [l.getD k ByteArray.empty] := by
  rw [List.take_add_one, List.getElem?_eq_getElem h, List.getD_eq_getElem?_getD, List.getElem?_eq_getElem h]
  rfl

theorem bytes_ne {x y : ByteArray} (h : ¬ x = y) : (x.toList == y.toList) = false := by
  rw [ByteArray.toList_eq, ByteArray.toList_eq]
  exact beq_false_of_ne fun e => h (ByteArray.ext (Array.toList_inj.1 e))

/-- Whether texts are the same. -/
def sameT (xs ys : List ByteArray) : Bool := decide (xs = ys)

theorem sameT_yes {xs ys : List ByteArray} (h : xs = ys) : sameT xs ys = true := decide_eq_true h
theorem sameT_no {xs ys : List ByteArray} (h : xs ≠ ys) : sameT xs ys = false := decide_eq_false h

set_option maxRecDepth 20000 in
set_option maxHeartbeats 2000000 in
theorem eqStr_any (p q : Option Addr) (n c m d : Nat) (xs ys : List ByteArray) (w : World) (hx : RdV w p n c (txt xs)) (hy : RdV w q m d (txt ys)) (hn : n ≤ 1099511627776) (hm : m ≤ 1099511627776) : Calls Try.prog 26 #[.slice p n c, .slice q m d] w fun e w' => e = .returned (.bool (sameT xs ys)) ∧ Below w.heap.size w w' := by
  have hlx : xs.length = n := by have := hx.len; unfold txt at this; simpa using this
  have hly : ys.length = m := by have := hy.len; unfold txt at this; simpa using this
  by_cases hnm : n = m
  · subst hnm
    have HLX : Hid (xs.length = n) := hlx
    have HLY : Hid (ys.length = n) := hly
    have HX : Hid (RdV w p n c (txt xs)) := hx
    have HY : Hid (RdV w q n d (txt ys)) := hy
    clear hx hy hlx hly hm
    go_enter Try.func26, Try.ntmps26
    go_wp2_with fail
    go_loopw [13] (fun i wr => ∃ k : Nat, k ≤ n ∧ i = .int .i64 k ∧ Hid (xs.take k = ys.take k) ∧ Below w.heap.size w wr) (fun i _ => n - (intOf i).toNat)
    case atStart => exact ⟨0, Nat.zero_le _, rfl, rfl, Below.refl _ _⟩
    case round =>
      obtain ⟨k, hk, rfl, HE, hb⟩ := hrel
      by_cases h : k < n
      · have hki : (k : Int) < (n : Int) := by omega
        obtain ⟨b, o, rfl, hc⟩ := HX.out.cells (by omega)
        obtain ⟨b2, o2, rfl, hc2⟩ := HY.out.cells (by omega)
        have h1 := hc k h
        have h2 := hc2 k h
        rw [txt_get (by rw [HLX.out]; exact h)] at h1
        rw [txt_get (by rw [HLY.out]; exact h)] at h2
        obtain ⟨x, Hx⟩ : ∃ z, Hid (z = xs.getD k ByteArray.empty) := ⟨_, rfl⟩
        obtain ⟨y, Hy⟩ : ∃ z, Hid (z = ys.getD k ByteArray.empty) := ⟨_, rfl⟩
        rw [← Hx.out] at h1
        rw [← Hy.out] at h2
        have h1' := cell_below hb h1
        have h2' := cell_below hb h2
        have hbd : Below w.heap.size w wr.drew := hb.drew
        have HB : Hid (Below w.heap.size w wr.drew) := hbd
        have HB0 : Hid (Below w.heap.size w wr) := hb
        clear hc hc2 h1 h2 hb hbd
        by_cases hxy : x = y
        · have HN : Hid (xs.take (k + 1) = ys.take (k + 1)) := by
            show _ = _
            rw [take_snocB (by rw [HLX.out]; exact h), take_snocB (by rw [HLY.out]; exact h), HE.out, ← Hx.out, ← Hy.out, hxy]
          subst hxy
          go_wp2_with fail
          go_region
          all_goals
            go_wp2_with fail
            go_roundw
            case rel => exact ⟨k + 1, by omega, by go_num, HN, by first | exact HB.out | exact HB0.out⟩
            case measure => simp [intOf]; omega
        · have hne : (x.toList == y.toList) = false := bytes_ne hxy
          have HN : Hid (sameT xs ys = false) := sameT_no (fun e => hxy (by rw [Hx.out, Hy.out, e]))
          go_wp2_with fail
          go_region
          all_goals
            go_wp2_with fail
            go_ret
            exact ⟨by rw [HN.out]; rfl, by first | exact HB.out | exact HB0.out⟩
      · obtain rfl : k = n := by omega
        have HS : Hid (sameT xs ys = true) := sameT_yes (by
          have := HE.out
          rw [List.take_of_length_le (by rw [HLX.out]; exact Nat.le_refl _), List.take_of_length_le (by rw [HLY.out]; exact Nat.le_refl _)] at this
          exact this)
        go_wp2_with fail
        go_ret
        exact ⟨by rw [HS.out]; rfl, hb⟩
  · have HS : Hid (sameT xs ys = false) := sameT_no (fun e => hnm (by rw [← hlx, ← hly, e]))
    have hne : ((n : Int) != (m : Int)) = true := by simpa using (show ¬ (n : Int) = (m : Int) by omega)
    clear hx hy hlx hly hnm
    go_enter Try.func26, Try.ntmps26
    go_wp2_with fail
    go_ret
    exact ⟨by rw [HS.out]; rfl, Below.refl _ _⟩

end Go.Proofs.Ytpjhadaiodnnaaa.M
