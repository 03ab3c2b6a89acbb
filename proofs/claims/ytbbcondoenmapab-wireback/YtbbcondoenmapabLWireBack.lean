/-
  Own text: the walk of the law WireBack.
-/
import Derived.Test.YtbbcondoenmapabReader
import Derived.Test.YtbbcondoenmapabAwake
import Derived.Test.YtbbcondoenmapabOpen
namespace Go.Proofs.Ytbbcondoenmapab.M
open Go.ChangeShapes Go.WideShapes Go.ChangeAt Go.RowKit

theorem sg_of_wf {xs : List Int} (h : ∀ x ∈ xs, (Lit.int .i64 x).wf = true) : Sg xs := fun x hx => i64_bounds (h x hx)

theorem putAll_cons (x : Int) (r : List Int) : putAll (x :: r) = putL x.toNat ++ putAll r := by simp [putAll]

theorem intAll_cons (x : Int) (r : List Int) : intAll (x :: r) = putL (zig x).toNat ++ intAll r := by simp [intAll, putAll]

/-- The next number of what was put. -/
theorem next_num {ls : List Int} (hw : Wd ls) {k : Nat} (hk : k < ls.length) (t : List Int) :
    numR (putAll (ls.drop k) ++ t) = ((ls.getD k 0).toNat, (putL (ls.getD k 0).toNat).length, 0) ∧ (putAll (ls.drop k) ++ t).drop (putL (ls.getD k 0).toNat).length = putAll (ls.drop (k + 1)) ++ t := by
  have hz := hw _ (getD_mem hk)
  rw [drop_getD hk, putAll_cons, List.append_assoc]
  exact ⟨numR_putL (by omega) _, List.drop_left⟩

theorem next_int {ls : List Int} (hw : Sg ls) {k : Nat} (hk : k < ls.length) (t : List Int) :
    numR (intAll (ls.drop k) ++ t) = ((zig (ls.getD k 0)).toNat, (putL (zig (ls.getD k 0)).toNat).length, 0) ∧ (intAll (ls.drop k) ++ t).drop (putL (zig (ls.getD k 0)).toNat).length = intAll (ls.drop (k + 1)) ++ t := by
  have hz := hw _ (getD_mem hk)
  have hb := zig_bd _ hz.1 hz.2
  rw [drop_getD hk, intAll_cons, List.append_assoc]
  exact ⟨numR_putL (by omega) _, List.drop_left⟩

set_option maxRecDepth 20000 in
set_option maxHeartbeats 1000000 in
theorem walk_WireBack (w : World) (q : Option Addr) (m d : Nat) (ls : List Int) (hl : Rd .u64 w q m d ls) (hw : ∀ x ∈ ls, (Lit.int .u64 x).wf = true) (sm : m * 8 ≤ 140737488351232)
    (q2 : Option Addr) (m2 d2 : Nat) (is : List Int) (hi : Rd .i64 w q2 m2 d2 is) (hiw : ∀ x ∈ is, (Lit.int .i64 x).wf = true) (sm2 : m2 * 8 ≤ 140737488351232)
    (p : Option Addr) (n c : Nat) (xs : List Int) (hr : Rd .u8 w p n c xs) (hx : ∀ x ∈ xs, (Lit.int .u8 x).wf = true) (sn : n * 1 ≤ 140737488351232)
    (p2 : Option Addr) (n2 c2 : Nat) (ys : List Int) (hr2 : Rd .u8 w p2 n2 c2 ys) (hy : ∀ x ∈ ys, (Lit.int .u8 x).wf = true) (sn2 : n2 * 1 ≤ 140737488351232) :
    Calls Try.prog 4 #[.slice q m d, .slice q2 m2 d2, .slice p n c, .slice p2 n2 c2] w fun e w' => e = .returned (.bool true) ∧ Below w.heap.size w w' := by
  have bl := wd_of_wf hw
  have bi := sg_of_wf hiw
  have bx := by_of_wf hx
  have by2 := by_of_wf hy
  clear hw hiw hx hy
  by_cases h1 : 500 < m + m2
  · clear hr hl hr2 hi bl bi bx by2
    go_enter Try.func4, Try.ntmps4
    go_wp2_with fail
    refine (awake_any _).mono ?_
    rintro e w1 ⟨rfl, hb⟩
    go_wp2_with fail
    go_ret
    exact ⟨rfl, hb⟩
  · by_cases h2 : 16384 < n + n2
    · clear hr hl hr2 hi bl bi bx by2
      go_enter Try.func4, Try.ntmps4
      go_wp2_with fail
      refine (awake_any _).mono ?_
      rintro e w1 ⟨rfl, hb⟩
      go_wp2_with fail
      go_ret
      exact ⟨rfl, hb⟩
    · have hP1 := put_any none 0 0 [] q m d ls w (Rd.empty _ _ _ _ (fun _ => rfl)) hl bl (by omega) (by omega)
      simp only [Nat.zero_add, List.nil_append] at hP1
      have hal := putAll_len bl
      have hai := intAll_len bi
      have hll := hl.len
      have hil := hi.len
      have hpl := putL_len (m := n) (by omega)
      have hxl := hr.len
      have hyl := hr2.len
      have hbyall : By (putAll ls ++ (intAll is ++ (putL n ++ (xs ++ ys)))) := By.app (putAll_by _) (By.app (putAll_by _) (By.app (putL_by _) (By.app bx by2)))
      go_enter Try.func4, Try.ntmps4
      go_wp2_with fail
      refine hP1.mono ?_
      rintro e w1 ⟨p1, c1, rfl, ho1, hb1⟩
      have hP2 := putInts_any _ _ _ _ q2 m2 d2 is w1 ho1.rd (hi.below hb1) bi (by omega) (by omega)
      clear hP1 ho1
      go_wp2_with fail
      refine hP2.mono ?_
      rintro e w2 ⟨p3, c3, rfl, ho2, hb2⟩
      have hbb2 := Below.via hb1 hb2 (Nat.le_refl _)
      have hP3 := putBytes_any _ _ _ _ p n c xs w2 ho2.rd (hr.below hbb2) (by omega) (by omega)
      clear hP2 ho2 hb1 hb2
      go_wp2_with fail
      refine hP3.mono ?_
      rintro e w3 ⟨p4, c4, rfl, ho3, hb3⟩
      have hbb3 := Below.via hbb2 hb3 (Nat.le_refl _)
      have hr23 := hr2.below hbb3
      clear hP3
      go_wp2_with (at_builtin; refine app8 _ rfl _ _ rfl w2.heap.size _ _ _ _ rfl ho3 _ _ _ ys rfl hr23 ?d1 ?d3 ?_)
      case d1 => omega
      case d3 => exact hb3.size
      intro p5 c5 w5 ho5 hb5
      have hbb5 := Below.trans hbb3 (hb5.mono hbb2.size)
      have hfit : (putAll ls).length + (intAll is).length + (putL n).length + n + n2 ≤ 1099511627776 := by omega
      have e5 : putAll ls ++ intAll is ++ (putL n ++ xs) ++ ys = putAll ls ++ (intAll is ++ (putL n ++ (xs ++ ys))) := by simp only [List.append_assoc]
      have ho6 : Rd .u8 w5 p5 ((putAll ls).length + (intAll is).length + (putL n).length + n + n2) c5 (putAll ls ++ (intAll is ++ (putL n ++ (xs ++ ys)))) := by
        have := ho5.rd
        first | exact this | (rw [← e5]; exact this) | (simp only [List.append_assoc] at this; exact this)
      have hRd := read_any _ _ _ _ w5 ho6 hbyall hfit
      clear ho5 ho3 hr23 e5 ho6 hb3 hbb2 hb5 hbb3
      go_wp2_with fail
      refine hRd.mono ?_
      rintro e w6 ⟨g, p6, c6, rfl, hR6, hg, _, hb6⟩
      have hbb6 := Below.via hbb5 hb6 (Nat.le_refl _)
      have hwg : w.heap.size ≤ g := Nat.le_trans hbb5.size hg
      clear hRd hb6 hbb5 hbyall hfit hal hai hg
      go_wp2_with fail
      go_loopw [40] (fun i wr => ∃ (k n' : Nat) (p' : Option Addr) (c' : Nat), i = .int .i64 k ∧ k ≤ m ∧ Rdr wr g p' n' c' (putAll (ls.drop k) ++ (intAll is ++ (putL n ++ (xs ++ ys)))) 0 ∧ Below w.heap.size w wr) (fun i _ => m - (intOf i).toNat)
      case atStart => exact ⟨0, _, p6, c6, rfl, Nat.zero_le _, hR6, hbb6⟩
      case round =>
        obtain ⟨k, n', p', c', rfl, hk, hR, hb⟩ := hrel
        clear hR6 hbb6
        by_cases hkm : k < m
        · obtain ⟨b, o, rfl, hc⟩ := (hl.below hb).cells (by omega)
          have hcx := hc k hkm
          obtain ⟨hn1, hn3⟩ := next_num bl (k := k) (by omega) (intAll is ++ (putL n ++ (xs ++ ys)))
          have hN := number_good g p' n' c' _ wr hR (by rw [hn1])
          rw [hn1] at hN
          simp only [hn3] at hN
          have hz := (bl (ls.getD k 0) (getD_mem (by omega))).1
          generalize ls.getD k 0 = z at hcx hN hz
          obtain ⟨z, rfl⟩ := Int.eq_ofNat_of_zero_le hz
          rw [Int.toNat_natCast] at hN
          clear hc hn1 hn3 hR hz
          go_wp2_with fail
          refine hN.mono ?_
          rintro e w7 ⟨rfl, ⟨p7, c7, hR7⟩, hg7⟩
          have hb7 : Below w.heap.size w w7 := hb.grown hg7 hb.size (fun j hj => by cases hj; exact hwg)
          clear hN hb hg7 hcx
          go_wp2_with fail
          go_roundw
          case rel => exact ⟨k + 1, _, p7, c7, by go_num, by omega, hR7, hb7⟩
          case measure => simp [intOf]; omega
        · obtain rfl : k = m := by omega
          rw [List.drop_of_length_le (by omega), putAll_nil, List.nil_append] at hR
          go_wp2_with fail
          go_loopw [51] (fun i wr => ∃ (k n' : Nat) (p' : Option Addr) (c' : Nat), i = .int .i64 k ∧ k ≤ m2 ∧ Rdr wr g p' n' c' (intAll (is.drop k) ++ (putL n ++ (xs ++ ys))) 0 ∧ Below w.heap.size w wr) (fun i _ => m2 - (intOf i).toNat)
          case atStart => exact ⟨0, _, p', c', rfl, Nat.zero_le _, hR, hb⟩
          case round =>
            obtain ⟨k2, n3, p3, c3, rfl, hk2, hR3, hb3⟩ := hrel
            clear hR hb
            by_cases hkm2 : k2 < m2
            · obtain ⟨b, o, rfl, hc⟩ := (hi.below hb3).cells (by omega)
              have hcx := hc k2 hkm2
              obtain ⟨hn1, hn3⟩ := next_int bi (k := k2) (by omega) (putL n ++ (xs ++ ys))
              have hzb := bi (is.getD k2 0) (getD_mem (by omega))
              have hzz := zig_bd _ hzb.1 hzb.2
              have hN := int_good g p3 n3 c3 _ wr hR3 (by rw [hn1]) (by rw [hn1]; show (zig (is.getD k2 0)).toNat < _; omega)
              rw [hn1] at hN
              simp only [hn3] at hN
              rw [Int.toNat_of_nonneg hzz.1, zag_zig] at hN
              generalize is.getD k2 0 = z at hcx hN
              clear hc hn1 hn3 hR3 hzb hzz
              go_wp2_with fail
              refine hN.mono ?_
              rintro e w7 ⟨rfl, ⟨p7, c7, hR7⟩, hg7⟩
              have hb7 : Below w.heap.size w w7 := hb3.grown hg7 hb3.size (fun j hj => by cases hj; exact hwg)
              clear hN hb3 hg7 hcx
              go_wp2_with fail
              go_roundw
              case rel => exact ⟨k2 + 1, _, p7, c7, by go_num, by omega, hR7, hb7⟩
              case measure => simp [intOf]; omega
            · obtain rfl : k2 = m2 := by omega
              rw [List.drop_of_length_le (by omega)] at hR3
              have hR4 : Rdr wr g p3 n3 c3 (putL n ++ (xs ++ ys)) 0 := by simpa [intAll, putAll] using hR3
              have hnum := numR_putL (m := n) (by omega) (xs ++ ys)
              have hl4 := hR4.rd.len
              rw [List.length_append, List.length_append, hxl, hyl] at hl4
              have hpp := putL_pos n
              obtain ⟨b, o, rfl, _⟩ := hR4.rd.cells (by omega)
              have hB := bytes_good g b o n3 c3 _ n wr hR4 (by rw [hnum]) (by omega) (by rw [hnum]; exact Nat.le_refl _) (by rw [hnum]; show (putL n).length + n ≤ n3; omega)
              rw [hnum] at hB
              simp only at hB
              have hd1 : (putL n ++ (xs ++ ys)).drop (putL n).length = xs ++ ys := List.drop_left
              have hd2 : (xs ++ ys).take n = xs := by rw [← hxl, List.take_left]
              have hleft : n3 - ((putL n).length + n) = n2 := by omega
              rw [hd1, hd2, hleft] at hB
              have hrw := hr.below hb3
              have hwr := hb3.size
              clear hR3 hR4 hnum hl4 hpp hd1 hd2 hleft hl hi
              go_wp2_with fail
              refine hB.mono ?_
              rintro e w7 ⟨p7, c7, rfl, hd7, ⟨p8, c8, hR8⟩, hb7⟩
              have hbb7 : Below w.heap.size w w7 := hb3.trans (hb7.mono hwg)
              have hr7 := hr.below hbb7
              have hE7 := err_any g _ _ _ _ _ w7 hR8
              have hL7 := left_any g _ _ _ _ _ w7 hR8
              have hEq := equal_same _ _ _ _ _ _ _ _ hd7 hr7 bx
              clear hB hb3 hb7 hrw hd7 hR8 hr7 hr hr2
              go_wp2_with fail
              refine hEq.mono ?_
              rintro e w8 ⟨rfl, hw8⟩
              subst hw8
              go_wp2_with fail
              refine hE7.mono ?_
              rintro e w8 ⟨rfl, hw8⟩
              subst hw8
              go_wp2_with fail
              refine hL7.mono ?_
              rintro e w8 ⟨rfl, hw8⟩
              subst hw8
              clear hEq hE7 hL7
              go_wp2_with fail
              refine (awake_any _).mono ?_
              rintro e w9 ⟨rfl, hb9⟩
              have hbb9 := Below.via hbb7 hb9 (Nat.le_refl _)
              go_wp2_with fail
              go_ret
              exact ⟨rfl, hbb9⟩

end Go.Proofs.Ytbbcondoenmapab.M
