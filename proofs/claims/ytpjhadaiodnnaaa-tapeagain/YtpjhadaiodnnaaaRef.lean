/-
  Own text: contracts of the reference's Put, Ints, Bool, Bytes.
-/
import Derived.Test.YtpjhadaiodnnaaaPut2
namespace Go.Proofs.Ytpjhadaiodnnaaa.M
open Go.ChangeShapes Go.WideShapes Go.ChangeAt Go.RowKit

theorem small_step {m j : Nat} (h : m < 128 ^ (10 - j)) (hj : j < 10) : m / 128 < 128 ^ (10 - (j + 1)) := by
  have e : 10 - j = (10 - (j + 1)) + 1 := by omega
  rw [e, Nat.pow_succ] at h
  exact Nat.div_lt_of_lt_mul (by rw [Nat.mul_comm]; exact h)

theorem small_end {m j : Nat} (h : m < 128 ^ (10 - j)) (hj : 10 ≤ j) : m < 128 := by
  rw [show 10 - j = 0 by omega] at h
  simp at h
  omega

theorem byte_great (m : Nat) : ((128 + (m : Int) % 128) % 256) = ((128 + m % 128 : Nat) : Int) := by omega

set_option maxRecDepth 20000 in
set_option maxHeartbeats 800000 in
theorem rput_any (p : Option Addr) (n c : Nat) (xs : List Int) (q : Option Addr) (m d : Nat) (ls : List Int) (w : World) (hr : Rd .u8 w p n c xs) (hl : Rd .u64 w q m d ls) (hw : Wd ls) (hn : n ≤ 1099511627776) (hm : m ≤ 1099511627776) :
    Calls Try.prog 98 #[.slice p n c, .slice q m d] w fun e w' => ∃ p' c', e = .returned (.slice p' (n + (putAll ls).length) c') ∧ Ow .u8 5 w' w.heap.size p' (n + (putAll ls).length) c' (xs ++ putAll ls) ∧ Below w.heap.size w w' := by
  go_enter Try.func98, Try.ntmps98
  go_wp2_with (at_builtin; refine app8 _ rfl _ _ rfl w.heap.size _ _ _ [] rfl (Ow.empty _ _ _ _ _) _ _ _ xs rfl (hr.below (below_alloc _ _)) ?d1 ?d3 ?_)
  case d1 => omega
  case d3 => simp
  intro p1 c1 w1 ho1 hb0
  have hb1 := (below_alloc w (.cells #[] 5)).trans hb0
  clear hb0
  go_wp2
  go_loopw [5, 13] (fun v q wr => ∃ (k : Nat) (p' : Option Addr) (n' c' : Nat), q = .int .i64 k ∧ k ≤ m ∧ v = .slice p' n' c' ∧ Ow .u8 5 wr w.heap.size p' n' c' (xs ++ putAll (ls.take k)) ∧ Below w.heap.size w wr) (fun _ q _ => m - (intOf q).toNat)
  case atStart => exact ⟨0, p1, n, c1, rfl, Nat.zero_le _, rfl, by simpa [putAll] using ho1, hb1⟩
  case round =>
    obtain ⟨k, p', n', c', rfl, hk, rfl, ho', hb⟩ := hrel
    have hlw := hl.below hb
    have hnl : n' ≤ n + 10 * k := by
      have h1 := ho'.len
      have h2 := putAll_len (hw.take k)
      have h3 := hr.len
      simp only [List.length_append, List.length_take] at h1 h2
      omega
    have hBr := hb.size
    have hll := hl.len
    have HX : Hid (xs.length = n) := hr.len
    clear ho1 hb1 hr
    by_cases h : k < m
    · obtain ⟨b, o, rfl, hc⟩ := hlw.cells (by omega)
      have hcx := hc k h
      have hz := hw (ls.getD k 0) (getD_mem (by omega))
      have HS : Hid (putAll (ls.take (k + 1)) = putAll (ls.take k) ++ putL (ls.getD k 0).toNat) := putAll_snoc (by omega)
      clear hc hlw hw hl hll
      generalize ls.getD k 0 = z at hcx hz HS
      obtain ⟨z, rfl⟩ := Int.eq_ofNat_of_zero_le hz.1
      have hlz : (putL z).length ≤ 10 := putL_len (by omega)
      have hz70 : z < 128 ^ 10 := Nat.lt_of_lt_of_le (m := 18446744073709551616) (by omega) (by decide)
      have hol := ho'.len
      have hz64 : z < 18446744073709551616 := by omega
      clear hz
      go_wp2
      obtain ⟨wo, hwo⟩ : ∃ wo : World, wo = wr := ⟨_, rfl⟩
      have HW : Hid (wo = wr) := hwo
      clear hwo
      go_loopw [5, 7, 17] (fun v q i wr => ∃ (j m' : Nat) (p2 : Option Addr) (n2 c2 : Nat) (ys : List Int), i = .int .i64 j ∧ j ≤ 10 ∧ q = .int .u64 m' ∧ m' < 18446744073709551616 ∧ Hid (m' < 128 ^ (10 - j)) ∧ v = .slice p2 n2 c2 ∧ Ow .u8 5 wr w.heap.size p2 n2 c2 ys ∧ Hid (ys ++ putL m' = (xs ++ putAll (ls.take k)) ++ putL z) ∧ Below w.heap.size w wr) (fun _ _ i _ => 10 - (intOf i).toNat)
      case atStart => exact ⟨0, z, p', n', c', _, rfl, by omega, rfl, hz64, hz70, rfl, ho', rfl, hb⟩
      case round =>
        obtain ⟨j, m', p2, n2, c2, ys, rfl, hj, rfl, hm64, hm', rfl, ho2, he, hb2⟩ := hrel
        have hle : n2 + (putL m').length = n' + (putL z).length := by
          have := congrArg List.length he.out
          rw [List.length_append, List.length_append, ho2.len, hol] at this
          exact this
        have hBr2 := hb2.size
        have hn2 : n2 + 1 ≤ 80368744177664 := by have := putL_pos m'; omega
        clear hle hlz hol ho' hb hBr hz70 hz64
        by_cases h128 : m' < 128
        · have fin : ∀ (p3 : Option Addr) (c3 : Nat) (w3 : World), Ow .u8 5 w3 w.heap.size p3 (n2 + 1) c3 (ys ++ [(m' : Int)]) → Hid (Ow .u8 5 w3 w.heap.size p3 (n2 + 1) c3 (xs ++ putAll (ls.take (k + 1)))) := by
            intro p3 c3 w3 h3
            show Ow _ _ _ _ _ _ _ _
            rw [HS.out, ← List.append_assoc]
            have := he.out
            rw [putL_small h128] at this
            rw [Int.toNat_natCast, ← this]
            exact h3
          by_cases hj10 : j < 10
          · go_wp2_with (at_builtin; refine app8 _ rfl _ _ rfl w.heap.size _ _ _ ys rfl (ho2.below (below_alloc _ _)) _ _ _ _ rfl (Rd.one _ _ _ _) ?e1 ?e3 ?_)
            case e1 => omega
            case e3 => simp; omega
            intro p3 c3 w3 ho3 hb3
            have hb4 := (hb2.trans ((below_alloc _ _).mono hBr2)).trans hb3
            have ho4 := fin p3 c3 w3 ho3
            clear hb3 ho3 fin hb2 ho2 he hm' HS
            go_wp2
            go_roundw
            case rel => exact ⟨k + 1, p3, _, c3, by go_num, by omega, rfl, ho4.out, hb4⟩
            case measure => simp [intOf]; omega
          · go_wp2_with (at_builtin; refine app8 _ rfl _ _ rfl w.heap.size _ _ _ ys rfl (ho2.below (below_alloc _ _)) _ _ _ _ rfl (Rd.one _ _ _ _) ?f1 ?f3 ?_)
            case f1 => omega
            case f3 => simp; omega
            intro p3 c3 w3 ho3 hb3
            have hb4 := (hb2.trans ((below_alloc _ _).mono hBr2)).trans hb3
            have ho4 := fin p3 c3 w3 ho3
            clear hb3 ho3 fin hb2 ho2 he hm' HS
            go_wp2
            go_roundw
            case rel => exact ⟨k + 1, p3, _, c3, by go_num, by omega, rfl, ho4.out, hb4⟩
            case measure => simp [intOf]; omega
        · have hj10 : j < 10 := by
            rcases Nat.lt_or_ge j 10 with h | h
            · exact h
            · exact absurd (small_end hm'.out h) h128
          have hstep : Hid (m' / 128 < 128 ^ (10 - (j + 1))) := small_step hm'.out hj10
          go_wp2_with (at_builtin; refine app8 _ rfl _ _ rfl w.heap.size _ _ _ ys rfl (ho2.below (below_alloc _ _)) _ _ _ _ rfl (Rd.one _ _ _ _) ?g1 ?g3 ?_)
          case g1 => omega
          case g3 => simp; omega
          intro p3 c3 w3 ho3 hb3
          have hb4 := (hb2.trans ((below_alloc _ _).mono hBr2)).trans hb3
          have R : Hid ((ys ++ [((128 + m' % 128 : Nat) : Int)]) ++ putL (m' / 128) = (xs ++ putAll (ls.take k)) ++ putL z) := by
            show _ = _
            rw [← he.out, putL_great (m := m') (by omega), List.append_assoc]
            rfl
          have ho4 : Ow .u8 5 w3 w.heap.size p3 (n2 + 1) c3 (ys ++ [((128 + m' % 128 : Nat) : Int)]) := by
            first | exact ho3 | (rw [← byte_great]; exact ho3)
          clear hb3 ho3 hb2 ho2 he hm' HS
          go_wp2
          go_roundw
          case rel => exact ⟨j + 1, m' / 128, p3, n2 + 1, c3, _, by go_num, by omega, by go_num, by omega, hstep, rfl, ho4, R, hb4⟩
          case measure => simp [intOf]; omega
    · obtain rfl : k = m := by omega
      have e1 : xs ++ putAll (ls.take k) = xs ++ putAll ls := by rw [List.take_of_length_le (by omega)]
      rw [e1] at ho'
      have e2 : n' = n + (putAll ls).length := by
        have h1 := ho'.len
        rw [List.length_append, HX.out] at h1
        exact h1.symm
      subst e2
      go_wp2
      go_ret
      exact ⟨p', c', rfl, ho', hb⟩

set_option maxRecDepth 20000 in
theorem rbytes_any (p : Option Addr) (n c : Nat) (xs : List Int) (q : Option Addr) (m d : Nat) (ys : List Int) (w : World) (hr : Rd .u8 w p n c xs) (hl : Rd .u8 w q m d ys) (hn : n ≤ 1099511627776) (hm : m ≤ 1099511627776) :
    Calls Try.prog 97 #[.slice p n c, .slice q m d] w fun e w' => ∃ p' c', e = .returned (.slice p' (n + (putL m).length + m) c') ∧ Ow .u8 5 w' w.heap.size p' (n + (putL m).length + m) c' (xs ++ (putL m ++ ys)) ∧ Below w.heap.size w w' := by
  have hpl := putL_len (m := m) (by omega)
  have hs : w.heap.size ≤ (w.alloc (.cells #[.int .u64 (m : Int)] 133)).heap.size := by simp
  have e1 : putAll [(m : Int)] = putL m := by rw [putAll_one]; rfl
  have E1 : Hid (putAll [(m : Int)] = putL m) := e1
  clear e1
  go_enter Try.func97, Try.ntmps97
  go_wp2_with (first | (go_at_call 98; refine (rput_any _ _ _ xs _ _ _ [(m : Int)] _ (hr.below (below_alloc _ _)) (Rd.one _ _ _ _) (Wd.one (by omega) (by omega)) hn (by omega)).mono ?_; rw [E1.out]; rintro e w1 ⟨p1, c1, rfl, ho1, hb0⟩; have hb1 := (below_alloc w (.cells #[.int .u64 (m : Int)] 133)).trans (hb0.mono hs); have ho2 := ho1.lower hs; clear hb0 ho1) | (at_builtin; refine app8 _ rfl _ _ rfl w.heap.size _ _ _ _ rfl ho2 _ _ _ ys rfl (hl.below hb1) ?d1 ?d3 ?_))
  case d1 => omega
  case d3 => exact hb1.size
  intro p3 c3 w3 ho3 hb3
  have hb4 := hb1.trans hb3
  clear hb1 hb3
  go_wp2
  go_ret
  exact ⟨p3, c3, rfl, ho3, hb4⟩

end Go.Proofs.Ytpjhadaiodnnaaa.M
