/-
  Own text: the walk of the law WireRecords.
-/
import Derived.Test.YtkncpbjdgghffaaAll
import Derived.Test.YtkncpbjdgghffaaAwake
import Derived.Test.YtkncpbjdgghffaaOpen
namespace Go.Proofs.Ytkncpbjdgghffaa.M
open Go.ChangeShapes Go.WideShapes Go.ChangeAt Go.RowKit

/-- How much is gone through. -/
def tot (l : List (List Int)) : Nat := (l.map fun x => 1 + min x.length 16384).sum

theorem tot_snoc {l : List (List Int)} {k : Nat} (h : k < l.length) : tot (l.take (k + 1)) = tot (l.take k) + (1 + min (l.getD k []).length 16384) := by
  unfold tot
  rw [List.take_succ_eq_append_getElem h, List.map_append, List.sum_append, List.getD_eq_getElem?_getD, List.getElem?_eq_getElem h]
  simp

theorem tot_len (l : List (List Int)) : l.length ≤ tot l := by
  unfold tot
  induction l with
  | nil => exact Nat.le_refl _
  | cons x r ih => rw [List.map_cons, List.sum_cons, List.length_cons]; omega

/-- Those that have a record. -/
def good (l : List (List Int)) : List (List Int) := l.filter fun x => decide (x.length ≤ 8192)

theorem good_snoc {l : List (List Int)} {k : Nat} (h : k < l.length) : good (l.take (k + 1)) = good (l.take k) ++ (if (l.getD k []).length ≤ 8192 then [l.getD k []] else []) := by
  unfold good
  rw [List.take_succ_eq_append_getElem h, List.filter_append, List.getD_eq_getElem?_getD, List.getElem?_eq_getElem h]
  congr 1
  simp only [Option.getD_some, List.filter_cons, List.filter_nil, decide_eq_true_eq]

theorem good_spec {l : List (List Int)} (hb : ∀ x ∈ l, By x) : ∀ d ∈ good l, By d ∧ d.length ≤ 8192 := by
  intro d hd
  unfold good at hd
  rw [List.mem_filter] at hd
  exact ⟨hb d hd.1, by simpa using hd.2⟩

/-- The records' bytes. -/
def bytesL (l : List (List Int)) : List Int := (l.map sealL).flatten

theorem bytesL_len (l : List (List Int)) (h : ∀ d ∈ l, d.length ≤ 8192) : (bytesL l).length ≤ 15 * tot l := by
  unfold bytesL tot
  induction l with
  | nil => exact Nat.zero_le _
  | cons x r ih =>
    have h1 := h x (by simp)
    have h2 := ih fun d hd => h d (by simp [hd])
    have hp := length_sealL x
    have hq := putL_len (m := x.length) (by omega)
    simp only [List.map_cons, List.flatten_cons, List.length_append, List.sum_cons]
    have hm : min x.length 16384 = x.length := by omega
    rw [hm]
    omega

theorem bytesL_by (l : List (List Int)) (h : ∀ d ∈ l, By d) : By (bytesL l) := by
  intro x hx
  unfold bytesL at hx
  rw [List.mem_flatten] at hx
  obtain ⟨y, hy, hxy⟩ := hx
  obtain ⟨z, hz, rfl⟩ := List.mem_map.1 hy
  exact sealL_by (h z hz) x hxy

theorem tot_good (l : List (List Int)) : tot (good l) ≤ tot l := by
  unfold tot good
  induction l with
  | nil => exact Nat.le_refl _
  | cons x r ih =>
    rw [List.filter_cons]
    split
    · simp only [List.map_cons, List.sum_cons]; omega
    · simp only [List.map_cons, List.sum_cons]; omega

theorem tot_take (l : List (List Int)) (k : Nat) : tot (l.take k) ≤ tot l := by
  have e : tot l = tot (l.take k) + tot (l.drop k) := by
    unfold tot
    rw [← List.sum_append, ← List.map_append, List.take_append_drop]
  omega

theorem bytesL_app (a b : List (List Int)) : bytesL (a ++ b) = bytesL a ++ bytesL b := by unfold bytesL; simp

theorem bytesL_one (a : List Int) : bytesL [a] = sealL a := by unfold bytesL; simp

theorem infoU : (Try.prog.info? 5).map (fun i => (i.zero, i.size, i.bytes)) = some (some (.int .u8 0), 1, 1) := by kernel_rfl

set_option maxRecDepth 20000 in
set_option maxHeartbeats 4000000 in
theorem walk_WireRecords (w : World) (q : Option Addr) (m d : Nat) (vs : List Value) (xss : List (List Int)) (hl : RdV w q m d vs) (hs : Sls w vs xss) (hm : m ≤ maxLen) (hxb : ∀ xs ∈ xss, By xs)
    (p : Option Addr) (n c : Nat) (ys : List Int) (hr : Rd .u8 w p n c ys) (hy : ∀ x ∈ ys, (Lit.int .u8 x).wf = true) :
    Calls Try.prog 3 #[.slice q m d, .slice p n c] w fun e w' => e = .returned (.bool true) ∧ Below w.heap.size w w' := by
  have hyb := by_of_wf hy
  have hvl := hl.len
  have hxl : xss.length = m := by rw [← hs.1]; exact hvl
  unfold maxLen at hm
  clear hy
  go_enter Try.func3, Try.ntmps3
  go_wp2_with fail
  go_loop [5, 6] (fun t i => ∃ k : Nat, k ≤ m ∧ i = .int .i64 k ∧ t = .int .i64 ((tot (xss.take k) : Nat) : Int) ∧ tot (xss.take k) ≤ 32769) (fun _ i => m - (intOf i).toNat)
  case atStart => exact ⟨0, Nat.zero_le _, rfl, rfl, Nat.zero_le _⟩
  case round =>
    obtain ⟨k, hk, rfl, rfl, ht⟩ := hrel
    by_cases h : k < m
    · by_cases h16 : tot (xss.take k) ≤ 16384
      · obtain ⟨b1, o1, rfl, c1⟩ := hl.cells (by omega)
        obtain ⟨q1, m1, d1, e1, r1⟩ := hs.2 k (by omega)
        have hc1 := c1 k h
        rw [e1] at hc1
        have hsn := tot_snoc (l := xss) (k := k) (by omega)
        rw [r1.len] at hsn
        have HS : Hid (tot (xss.take (k + 1)) = tot (xss.take k) + (1 + min m1 16384)) := hsn
        clear hsn r1 e1 c1 hl hs hr
        generalize tot (xss.take k) = t0 at HS ht h16
        have hk1 : (k : Int) < (m : Int) := by omega
        have h161 : (t0 : Int) ≤ 16384 := by omega
        go_wp2_with fail
        exact ⟨⟨k + 1, by omega, by go_num, by rw [HS.out]; simp only [Value.int.injEq, true_and]; omega, by rw [HS.out]; omega⟩, by simp [intOf]; omega⟩
      · have hd1 : decide ((tot (xss.take k) : Int) ≤ 16384) = false := decide_eq_false (by omega)
        have hd2 : (16384 : Int) < (tot (xss.take k) : Int) := by omega
        have hd3 : decide ((k : Int) < (m : Int)) = true := decide_eq_true (by omega)
        clear hl hs hr hxl hvl
        generalize tot (xss.take k) = t0 at *
        go_wp2_with fail
        refine (awake_any _).mono ?_
        rintro e w1 ⟨rfl, hb⟩
        go_wp2_with fail
        go_ret
        exact ⟨rfl, hb⟩
    · obtain rfl : k = m := by omega
      have htk : xss.take k = xss := List.take_of_length_le (by omega)
      rw [htk] at ht ⊢
      have hk3 : decide ((k : Int) < (k : Int)) = false := decide_eq_false (by omega)
      by_cases h16 : tot xss ≤ 16384
      · by_cases hn : n ≤ 16384
        · have hd1 : decide ((16384 : Int) < (tot xss : Int)) = false := decide_eq_false (by omega)
          have hd2 : decide ((16384 : Int) < (n : Int)) = false := decide_eq_false (by omega)
          have hkt : k ≤ 16384 := by have := tot_len xss; omega
          obtain ⟨i0, hi0, hz0, hz1, hz2⟩ := info_parts infoS
          obtain ⟨i1, hi1, hy0, hy1, hy2⟩ := info_parts infoU
          have hgb : ∀ j, (bytesL (good (xss.take j))).length ≤ 245760 := fun j => by
            have h1 := bytesL_len (good (xss.take j)) fun d hd => (good_spec (fun x hx => hxb x (List.mem_of_mem_take hx)) d hd).2
            have h2 := tot_good (xss.take j)
            have h3 := tot_take xss j
            omega
          have HGB : Hid (∀ j, (bytesL (good (xss.take j))).length ≤ 245760) := hgb
          clear hgb
          generalize tot xss = t0 at *
          go_wp2_with fail
          go_loopw [7, 8, 47] (fun bv wv i wr => ∃ (bp : Option Addr) (bn bc : Nat) (wp : Option Addr) (wn wc : Nat) (ws : List Value) (j : Nat), j ≤ k ∧ i = .int .i64 j ∧ bv = .slice bp bn bc ∧ wv = .slice wp wn wc ∧ Ow .u8 5 wr w.heap.size bp bn bc (bytesL (good (xss.take j))) ∧ OwV 23 wr w.heap.size wp wn wc ws ∧ Sls w ws (good (xss.take j)) ∧ wn ≤ j ∧ Below w.heap.size w wr) (fun _ _ i _ => k - (intOf i).toNat)
          case atStart => exact ⟨none, 0, 0, none, 0, 0, [], 0, Nat.zero_le _, rfl, rfl, rfl, Ow.empty _ _ _ _ _, OwV.empty _ _ _ _, Sls.nil _, Nat.zero_le _, Below.refl _ _⟩
          case round =>
            obtain ⟨bp, bn, bc, wp, wn, wc, ws, j, hj, rfl, rfl, rfl, ho, hoV, hsw, hwn, hb⟩ := hrel
            by_cases hjk : j < k
            · obtain ⟨b1, o1, rfl, c1⟩ := hl.cells (by omega)
              obtain ⟨q1, m1, d1, e1, r1⟩ := hs.2 j (by omega)
              have hc1 := c1 j hjk
              rw [e1] at hc1
              have hgs := good_snoc (l := xss) (k := j) (by omega)
              have hmem : xss.getD j [] ∈ xss := by
                have hl2 : j < xss.length := by omega
                rw [List.getD_eq_getElem?_getD, List.getElem?_eq_getElem hl2]
                exact List.getElem_mem hl2
              have hxj := hxb _ hmem
              have hrl := r1.len
              have hb1 := HGB.out j
              have hb2 := HGB.out (j + 1)
              have hlt1 := World.block_lt_of_cell? _ _ hc1
              have hcw : wr.cell? ⟨b1, o1 + j, none⟩ = some (.slice q1 m1 d1) := by rw [hb.cell (p := ⟨b1, o1 + j, none⟩) hlt1]; exact hc1
              have hjk1 : (j : Int) < (k : Int) := by omega
              have hbl := ho.len
              by_cases h8 : m1 ≤ 8192
              · have hg2 : good (xss.take (j + 1)) = good (xss.take j) ++ [xss.getD j []] := by rw [hgs, if_pos (by omega)]
                have hse := seal_any q1 m1 d1 _ wr (r1.below hb) hxj h8
                have hsw2 := hsw.snoc r1
                rw [← hg2] at hsw2
                have hbs : bytesL (good (xss.take (j + 1))) = bytesL (good (xss.take j)) ++ sealL (xss.getD j []) := by rw [hg2, bytesL_app, bytesL_one]
                rw [hbs, List.length_append] at hb2
                have HBS : Hid (bytesL (good (xss.take (j + 1))) = bytesL (good (xss.take j)) ++ sealL (xss.getD j [])) := hbs
                generalize bytesL (good (xss.take j)) = BY1 at *
                generalize sealL (xss.getD j []) = SL at *
                clear hgs hbs hg2 hsw hl hs r1 e1 c1 hmem hxj hrl hc1 hlt1 HGB hr
                go_wp2_with fail
                refine hse.mono ?_
                rintro e w1 ⟨p1, n1, c1, rfl, ho1, hw1⟩
                have hol := ho.below hw1
                have hovl := hoV.below hw1
                have hbb1 := hb.trans (hw1.mono hb.size)
                have hrd1 := ho1.rd
                have hn1 := ho1.len
                clear hse ho hoV hb hw1 ho1 hcw
                go_wp2_with (refine wpList_appK _ rfl (.tmp 58) (.tmp 59) 23 rfl .u8 5 i1 (.int .u8 0) 1 Try.underlying23 hi1 hy0 hy1 hy2 rfl w.heap.size bp bn bc BY1 rfl hol p1 n1 c1 SL rfl hrd1 ?b1 ?b2 ?b3 ?_)
                case b1 => omega
                case b2 => unfold maxLen; omega
                case b3 => exact hbb1.size
                intro p2 c2 w2 ho2 hw2 hk2
                have hov2 := hovl.keptT hk2 (by decide)
                have hbb2 := hbb1.trans hw2
                clear hol hovl hbb1 hrd1 hw2 hk2
                have hc2 : (w2.alloc (.cells #[.slice q1 m1 d1] 23)).cell? ⟨w2.heap.size, 0, none⟩ = some (.slice q1 m1 d1) := by simp
                go_wp2_with (refine wpList_appV _ rfl (.tmp 61) (.tmp 63) 22 rfl 23 i0 (.slice none 0 0) 24 Try.underlying22 hi0 hz0 hz1 hz2 rfl w.heap.size wp wn wc ws rfl (hov2.below (below_alloc _ _)) _ _ _ _ rfl hc2 rfl ?b4 ?b5 ?b6 ?_)
                case b4 => omega
                case b5 => unfold maxLen; omega
                case b6 => (have := hbb2.size; simp; omega)
                intro p3 c3 w3 ho3 hw3 hk3
                have ho4 := (ho2.below (below_alloc _ (.cells #[.slice q1 m1 d1] 23))).keptT hk3 (by decide)
                have hbb3 := (hbb2.alloc hbb2.size (.cells #[.slice q1 m1 d1] 23)).trans hw3
                clear ho2 hov2 hbb2 hw3 hk3 hc2
                go_wp2_with fail
                go_roundw
                case rel => exact ⟨p2, bn + n1, c2, p3, wn + 1, c3, _, j + 1, by omega, by go_num, rfl, rfl, by rw [HBS.out]; exact ho4, ho3, hsw2, by omega, hbb3⟩
                case measure => simp [intOf]; omega
              · have hg2 : good (xss.take (j + 1)) = good (xss.take j) := by rw [hgs, if_neg (by omega), List.append_nil]
                have hse := seal_long q1 m1 d1 wr (by omega)
                rw [← hg2] at ho hsw
                clear hgs hg2 hl hs r1 e1 c1 hmem hxj hrl hc1 hlt1 HGB hb1 hb2 hbl hr
                go_wp2_with fail
                refine hse.mono ?_
                rintro e w1 ⟨rfl, hw1⟩
                subst hw1
                go_wp2_with fail
                go_roundw
                case rel => exact ⟨bp, bn, bc, wp, wn, wc, ws, j + 1, by omega, by go_num, rfl, rfl, ho, hoV, hsw, by omega, hb⟩
                case measure => simp [intOf]; omega
            · obtain rfl : j = k := by omega
              rw [htk] at ho hsw
              have hb1 := HGB.out j
              rw [htk] at hb1
              have hbl := ho.len
              have hgsp := good_spec hxb
              have hO := open_any p n c ys wr (hr.below hb) hyb (by omega)
              have hj3 : decide ((j : Int) < (j : Int)) = false := decide_eq_false (by omega)
              clear HGB hl hs
              by_cases he : (openR ys).2.2 = 0
              · rw [he] at hO
                generalize (openR ys).1 = dat at hO
                generalize (openR ys).2.1 = sz at hO
                clear he hr hgsp hxb
                go_wp2_with fail
                refine hO.mono ?_
                rintro e w1 ⟨p1, c1, rfl, ho1, hb1⟩
                have hbb1 := hb.trans (hb1.mono hb.size)
                go_wp2_with fail
                refine (awake_any _).mono ?_
                rintro e w2 ⟨rfl, hb2⟩
                have hbb2 := hbb1.trans (hb2.mono hbb1.size)
                go_wp2_with fail
                go_ret
                exact ⟨rfl, hbb2⟩
              · have hall := allR_seals (good xss) ys hgsp hyb he
                have hba : By (bytesL (good xss) ++ ys) := By.app (bytesL_by _ fun d hd => (hgsp d hd).1) hyb
                have hgl : ∀ x ∈ good xss, By x := fun x hx => (hgsp x hx).1
                have HA : Hid (allR (bytesL (good xss) ++ ys) = (good xss, bn)) := by
                  unfold Hid
                  rw [← hbl]
                  exact hall
                have hwl : wn = (good xss).length := by rw [← hoV.len]; exact hsw.1
                have hne : (((openR ys).2.2 : Nat) : Int) ≠ 0 := by omega
                have hne2 : ((((openR ys).2.2 : Nat) : Int) == 0) = false := by simpa using hne
                generalize bytesL (good xss) = BY1 at *
                generalize good xss = GD at *
                generalize (openR ys).1 = dat at hO
                generalize (openR ys).2.1 = sz at hO
                generalize (openR ys).2.2 = er at hO hne hne2
                have HW : Hid (wn = GD.length) := hwl
                clear he hall hgsp hxb hwl hne
                go_wp2_with fail
                refine hO.mono ?_
                rintro e w1 ⟨p1, c1, rfl, ho1, hw1⟩
                have hol := ho.below hw1
                have hovl := hoV.below hw1
                have hbb1 := hb.trans (hw1.mono hb.size)
                clear hO ho hoV hb hw1 ho1
                go_wp2_with fail
                refine (clone_any bp bn bc BY1 w1 hol.rd (by omega)).mono ?_
                rintro e w2 ⟨p2, c2, rfl, ho2, hw2⟩
                have hov2 := hovl.below hw2
                have hbb2 := hbb1.trans (hw2.mono hbb1.size)
                have hrb := hr.below hbb2
                have ho2l := ho2.lower hbb1.size
                clear hol hovl hw2
                go_wp2_with (refine wpList_appK _ rfl (.tmp 77) (.tmp 78) 23 rfl .u8 5 i1 (.int .u8 0) 1 Try.underlying23 hi1 hy0 hy1 hy2 rfl w.heap.size p2 bn c2 BY1 rfl ho2l p n c ys rfl hrb ?b7 ?b8 ?b9 ?_)
                case b7 => omega
                case b8 => unfold maxLen; omega
                case b9 => exact hbb2.size
                intro p3 c3 w3 ho3 hw3 hk3
                have hov3 := hov2.keptT hk3 (by decide)
                have hbb3 := hbb2.trans hw3
                have cA := all_own w.heap.size p3 (bn + n) c3 (BY1 ++ ys) w3 ho3 hba (by omega)
                rw [HA.out] at cA
                clear ho2 ho2l hov2 hbb1 hbb2 hw3 hk3 hrb ho3 hba
                go_wp2_with fail
                refine cA.mono ?_
                rintro e w4 ⟨p4, k4, c4, us, rfl, ho4, hs4, hw4⟩
                have hov4 := hov3.below hw4
                have hbb4 := hbb3.trans (hw4.mono hbb3.size)
                have hk4 : k4 = wn := by rw [HW.out, ← hs4.1]; exact ho4.len.symm
                subst hk4
                have cE := eqfunc_same p4 wp k4 c4 wc us ws GD w4 ho4.rd hov4.rd hs4.sls (hsw.below hbb4) hgl (by omega)
                clear cA hov3 hbb3 hw4 ho4 hs4 hov4 hsw hgl
                go_wp2_with fail
                refine cE.mono ?_
                rintro e w5 ⟨rfl, rfl⟩
                go_wp2_with fail
                refine (awake_any _).mono ?_
                rintro e w6 ⟨rfl, hb6⟩
                have hbb6 := hbb4.trans (hb6.mono hbb4.size)
                go_wp2_with fail
                go_ret
                exact ⟨rfl, hbb6⟩
        · have hd1 : decide ((16384 : Int) < (tot xss : Int)) = false := decide_eq_false (by omega)
          have hd2 : decide ((16384 : Int) < (n : Int)) = true := decide_eq_true (by omega)
          clear hl hs hr hxl hvl htk
          generalize tot xss = t0 at *
          go_wp2_with fail
          refine (awake_any _).mono ?_
          rintro e w1 ⟨rfl, hb⟩
          go_wp2_with fail
          go_ret
          exact ⟨rfl, hb⟩
      · have hd1 : decide ((16384 : Int) < (tot xss : Int)) = true := decide_eq_true (by omega)
        clear hl hs hr hxl hvl htk
        generalize tot xss = t0 at *
        go_wp2_with fail
        refine (awake_any _).mono ?_
        rintro e w1 ⟨rfl, hb⟩
        go_wp2_with fail
        go_ret
        exact ⟨rfl, hb⟩

end Go.Proofs.Ytkncpbjdgghffaa.M
