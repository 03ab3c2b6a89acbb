/-
  Own text: the walk of the law WireForm.
-/
import Derived.Test.YtbbcondoenmapabReader
import Derived.Test.YtbbcondoenmapabAwake
import Derived.Test.YtbbcondoenmapabOpen
namespace Go.Proofs.Ytbbcondoenmapab.M
open Go.ChangeShapes Go.WideShapes Go.ChangeAt Go.RowKit

theorem info64 : (Try.prog.info? 40).map (fun i => (i.zero, i.size, i.bytes)) = some (some (.int .u64 0), 1, 8) := by kernel_rfl

theorem app64 {ops : Array Oper} {rest : List Oper} {o : Oper} {a : Act} {Q : Exit → Act → World → Prop} (w : World) (hgd : o.guard = none) (s x : Operand)
    (hop : o.op = .call { callee := .builtin .append, args := #[s, x], argTypes := #[33, 33] })
    (B : Nat) (p : Option Addr) (n c : Nat) (xs : List Int) (hs : a.eval s = .slice p n c) (ho : Ow .u64 40 w B p n c xs)
    (q : Option Addr) (m d : Nat) (ys : List Int) (hx : a.eval x = .slice q m d) (hr : Rd .u64 w q m d ys) (hb : n + m ≤ 17592186044416) (hB : B ≤ w.heap.size)
    (h : ∀ p' c' w', Ow .u64 40 w' B p' (n + m) c' (xs ++ ys) → Below B w w' → wpList Try.prog ops Q rest (a.put o.dst (.slice p' (n + m) c')) w') : wpList Try.prog ops Q (o :: rest) a w := by
  obtain ⟨i0, hi, hz0, hz1, hz2⟩ := info_parts info64
  exact wpList_app w hgd s x 33 hop .u64 40 i0 (.int .u64 0) 8 Try.underlying33 hi hz0 hz1 hz2 rfl B p n c xs hs ho q m d ys hx hr (by omega) (by unfold maxLen; omega) hB h

/-- How many bytes the slice in a cell has. -/
def lenIn : Option Value → Nat
  | some (.slice _ n _) => n
  | _ => 0

/-- One, where the cell holds no error. -/
def okIn : Option Value → Nat
  | some (.int _ e) => if e = 0 then 1 else 0
  | _ => 0

/-- What a reader still has to do. -/
def toDo (g : Nat) (w : World) : Nat := 2 * lenIn (w.cell? ⟨g, 1, none⟩) + okIn (w.cell? ⟨g, 2, none⟩)

theorem Rdr.todo {w g p n c xs err} (h : Rdr w g p n c xs err) : toDo g w = 2 * n + if (err : Int) = 0 then 1 else 0 := by
  unfold toDo
  rw [h.rest, h.err]
  rfl

theorem putAll_len_ge : ∀ l : List Int, l.length ≤ (putAll l).length
  | [] => Nat.le_refl _
  | x :: r => by
    have h1 := putAll_len_ge r
    have h2 := putL_pos x.toNat
    simp only [putAll, List.map_cons, List.flatten_cons, List.length_append, List.length_cons] at h1 ⊢
    omega

theorem openR_bad {xs : List Int} (h : (openR xs).2.2 ≠ 0) : (openR xs).2.1 = 0 := by
  unfold openR at h ⊢
  by_cases h1 : (numR xs).2.2 ≠ 0
  · rw [if_pos h1]
  · rw [if_neg h1] at h ⊢
    by_cases h2 : 8192 < (numR xs).1
    · rw [if_pos h2]
    · rw [if_neg h2] at h ⊢
      by_cases h3 : xs.length - (numR xs).2.1 < (numR xs).1
      · rw [if_pos h3]
      · rw [if_neg h3] at h ⊢
        by_cases h4 : xs.length - ((numR xs).2.1 + (numR xs).1) < 4
        · rw [if_pos h4]
        · rw [if_neg h4] at h ⊢
          by_cases h5 : get4 (xs.drop ((numR xs).2.1 + (numR xs).1)) ≠ sumN (xs.take ((numR xs).2.1 + (numR xs).1))
          · rw [if_pos h5]
          · rw [if_neg h5] at h; exact absurd rfl h

/-- One number more is read. -/
theorem form_step {xs ls rest : List Int} (hb : By rest) (he : (numR rest).2.2 = 0) (h : putAll ls ++ rest = xs) :
    putAll (ls ++ [((numR rest).1 : Int)]) ++ rest.drop (numR rest).2.1 = xs ∧ (numR rest).1 < 18446744073709551616 := by
  obtain ⟨m, hm, hn, r2, hr⟩ := numR_form hb he
  rw [hn]
  refine ⟨?_, hm⟩
  simp only
  rw [putAll_app, putAll_one, Int.toNat_natCast, ← h, hr, List.drop_left, List.append_assoc]

theorem Rd.front {k : IntKind} {w : World} {p : Option Addr} {n c : Nat} {xs : List Int} (h : Rd k w p n c xs) {m : Nat} (hm : m ≤ n) : Rd k w p m c (xs.take m) := by
  refine ⟨by rw [List.length_take, h.len]; omega, Nat.le_trans hm h.cap, h.nil, fun h0 => ?_⟩
  obtain ⟨b, o, hp, hc⟩ := h.cells (by omega)
  refine ⟨b, o, hp, fun i hi => ?_⟩
  rw [hc i (by omega), List.getD_eq_getElem?_getD, List.getD_eq_getElem?_getD, List.getElem?_take, if_pos hi]

theorem front_eq {a b xs : List Int} (h : a ++ b = xs) {n m : Nat} (hn : xs.length = n) (hm : b.length = m) : xs.take (n - m) = a := by
  have : n - m = a.length := by have := congrArg List.length h; rw [List.length_append] at this; omega
  rw [this, ← h, List.take_left]

set_option maxRecDepth 20000 in
set_option maxHeartbeats 1000000 in
theorem walk_WireForm (w : World) (p : Option Addr) (n c : Nat) (xs : List Int) (hr : Rd .u8 w p n c xs) (hx : ∀ x ∈ xs, (Lit.int .u8 x).wf = true) :
    Calls Try.prog 6 #[.slice p n c] w fun e w' => e = .returned (.bool true) ∧ Below w.heap.size w w' := by
  have bx := by_of_wf hx
  clear hx
  by_cases h1 : 16384 < n
  · clear hr bx
    go_enter Try.func6, Try.ntmps6
    go_wp2_with fail
    refine (awake_any _).mono ?_
    rintro e w1 ⟨rfl, hb⟩
    go_wp2_with fail
    go_ret
    exact ⟨rfl, hb⟩
  · have hlen := hr.len
    go_enter Try.func6, Try.ntmps6
    go_wp2_with fail
    refine (read_any p n c xs _ hr bx (by omega)).mono ?_
    rintro e w1 ⟨g, p1, c1, rfl, hR1, hg, hsz, hb1⟩
    have HX : Hid (xs.length = n) := hlen
    have hg1 : g + 1 ≤ w1.heap.size := by omega
    clear hlen hsz
    go_wp2_with fail
    go_loopw [4] (fun v wr => ∃ (pl : Option Addr) (nl cl : Nat) (ls : List Int) (p' : Option Addr) (n' c' : Nat) (rest : List Int) (err : Nat), v = .slice pl nl cl ∧ Ow .u64 40 wr (g + 1) pl nl cl ls ∧ Rdr wr g p' n' c' rest err ∧ Hid (putAll ls ++ rest = xs) ∧ Wd ls ∧ Below w.heap.size w wr ∧ g + 1 ≤ wr.heap.size) (fun _ wr => toDo g wr)
    case atStart => exact ⟨none, 0, 0, [], p1, n, c1, xs, 0, rfl, Ow.empty _ _ _ _ _, hR1, rfl, (fun _ h => by cases h), hb1, hg1⟩
    case round =>
      obtain ⟨pl, nl, cl, ls, p', n', c', rest, err, rfl, hol, hR, hE, hWd, hb, hgr⟩ := hrel
      have hLeft := left_any g p' n' c' rest err wr hR
      have hErr := err_any g p' n' c' rest err wr hR
      have hrl := hR.rd.len
      have htodo := hR.todo
      have hnl : nl + n' ≤ n := by
        have h1 := congrArg List.length hE.out
        have h2 := putAll_len_ge ls
        rw [List.length_append, hrl, HX.out] at h1
        have h3 := hol.len
        omega
      clear hR1 hb1 hg1
      -- how the law goes on behind the loop
      have tail : True := trivial
      by_cases hgo : 0 < n' ∧ err = 0
      · obtain ⟨hn0, rfl⟩ := hgo
        by_cases hnum : (numR rest).2.2 = 0
        · have hN := number_good g p' n' c' rest wr hR hnum
          obtain ⟨hF, hv⟩ := form_step hR.byt hnum hE.out
          have HF : Hid (putAll (ls ++ [((numR rest).1 : Int)]) ++ rest.drop (numR rest).2.1 = xs) := hF
          have ha := (num_room hR.byt hnum).1
          generalize (numR rest).1 = v at hN HF hv
          generalize (numR rest).2.1 = a at hN HF ha
          have HT : Hid (toDo g wr = 2 * n' + 1) := by show _ = _; rw [htodo]; rfl
          clear hR hE hF hrl htodo tail hnum
          go_wp2_with fail
          refine hLeft.mono ?_
          rintro e w2 ⟨rfl, hw⟩
          subst hw
          go_wp2_with fail
          refine hErr.mono ?_
          rintro e w2 ⟨rfl, hw⟩
          subst hw
          clear hLeft hErr
          go_wp2_with fail
          refine hN.mono ?_
          rintro e w3 ⟨rfl, ⟨p3, c3, hR3⟩, hg3⟩
          have hol3 := hol.kept hg3 (Nat.lt_succ_self g)
          have hb3 : Below w.heap.size w w3 := hb.grown hg3 (Nat.le_trans hg (by omega)) (fun k hk => by cases hk; exact hg)
          have hgr3 : g + 1 ≤ w3.heap.size := Nat.le_trans hgr hg3.size
          have hErr3 := err_any g _ _ _ _ _ w3 hR3
          clear hN hg3 hol hb hgr
          go_wp2_with fail
          refine hErr3.mono ?_
          rintro e w4 ⟨rfl, hw⟩
          subst hw
          clear hErr3
          go_wp2_with (at_builtin; refine app64 _ rfl _ _ rfl (g + 1) _ _ _ ls rfl (hol3.below (below_alloc _ _)) _ _ _ _ rfl (Rd.one _ _ _ _) ?d1 ?d3 ?_)
          case d1 => omega
          case d3 => simp; omega
          intro p5 c5 w5 ho5 hb5
          have hb6 := (below_alloc w4 (.cells #[.int .u64 (v : Int)] 40)).mono hgr3
          have hb7 := hb6.trans hb5
          have hR5 := hR3.below hb7 (Nat.lt_succ_self g)
          have hbb : Below w.heap.size w w5 := hb3.trans (hb7.mono (by omega))
          have hgr5 : g + 1 ≤ w5.heap.size := Nat.le_trans hgr3 hb7.size
          have hW5 : Wd (ls ++ [(v : Int)]) := fun y hy => (List.mem_append.1 hy).elim (hWd y) (fun h => by obtain rfl := List.mem_singleton.1 h; omega)
          have hT5 := hR5.todo
          have HT5 : Hid (toDo g w5 = 2 * (n' - a) + 1) := by show _ = _; rw [hT5]; rfl
          clear hb5 hb6 hb7 hR3 hol3 hb3 hgr3 hWd hT5
          go_wp2_with fail
          go_roundw
          case rel => exact ⟨p5, _, c5, _, p3, _, c3, _, 0, rfl, ho5, hR5, HF, hW5, hbb, hgr5⟩
          case measure => rw [HT.out, HT5.out]; omega
        · have hN := number_bad g p' n' c' rest wr hR hnum
          generalize (numR rest).1 = v at hN
          generalize (numR rest).2.2 = d at hN hnum
          have hd : ((d : Int) == 0) = false := by simp; omega
          have HT : Hid (toDo g wr = 2 * n' + 1) := by show _ = _; rw [htodo]; rfl
          clear hR hrl htodo tail
          go_wp2_with fail
          refine hLeft.mono ?_
          rintro e w2 ⟨rfl, hw⟩
          subst hw
          go_wp2_with fail
          refine hErr.mono ?_
          rintro e w2 ⟨rfl, hw⟩
          subst hw
          clear hLeft hErr
          go_wp2_with fail
          refine hN.mono ?_
          rintro e w3 ⟨rfl, hR3, hg3⟩
          have hol3 := hol.kept hg3 (Nat.lt_succ_self g)
          have hb3 : Below w.heap.size w w3 := hb.grown hg3 (Nat.le_trans hg (by omega)) (fun k hk => by cases hk; exact hg)
          have hgr3 : g + 1 ≤ w3.heap.size := Nat.le_trans hgr hg3.size
          have hErr3 := err_any g _ _ _ _ _ w3 hR3
          have hT5 := hR3.todo
          have HT5 : Hid (toDo g w3 = 2 * n') := by show _ = _; rw [hT5, if_neg (by omega)]; rfl
          clear hN hg3 hol hb hgr hT5 hnum
          go_wp2_with fail
          refine hErr3.mono ?_
          rintro e w4 ⟨rfl, hw⟩
          subst hw
          clear hErr3
          go_wp2_with fail
          go_roundw
          case rel => exact ⟨pl, nl, cl, ls, p', n', c', rest, d, rfl, hol3, hR3, hE, hWd, hb3, hgr3⟩
          case measure => rw [HT.out, HT5.out]; omega
      · have hfront := front_eq hE.out HX.out hrl
        have hP := put_any none 0 0 [] pl nl cl ls wr (Rd.empty _ _ _ _ (fun _ => rfl)) hol.rd hWd (by omega) (by omega)
        simp only [Nat.zero_add, List.nil_append] at hP
        have hrw := hr.below hb
        have hbp := putAll_by ls
        have hn' : n' ≤ n := by omega
        clear tail htodo hE hWd hol hrl hnl hr
        by_cases hn0 : 0 < n'
        · have hd : ((err : Int) == 0) = false := by simp; omega
          clear hgo
          go_wp2_with fail
          refine hLeft.mono ?_
          rintro e w2 ⟨rfl, hw⟩
          subst hw
          go_wp2_with fail
          refine hErr.mono ?_
          rintro e w2 ⟨rfl, hw⟩
          subst hw
          go_wp2_with fail
          clear hLeft hErr
          refine hP.mono ?_
          rintro e w3 ⟨p3, c3, rfl, ho3, hb3⟩
          have hR3 := hR.below hb3 hR.lt
          have hrw3 := hrw.below hb3
          have hbb3 := Below.via hb hb3 (Nat.le_refl _)
          have hLeft3 := left_any g _ _ _ _ _ w3 hR3
          have hfr3 := hrw3.front (m := n - n') (by omega)
          rw [hfront] at hfr3
          have hEq := equal_same _ _ _ _ _ _ _ _ ho3.rd hfr3 hbp
          have hcap := hrw3.cap
          clear hP hR hrw hb hb3 hR3 ho3 hfr3 hfront
          go_wp2_with fail
          refine hLeft3.mono ?_
          rintro e w4 ⟨rfl, hw⟩
          subst hw
          clear hLeft3
          go_wp2_with fail
          refine hEq.mono ?_
          rintro e w5 ⟨rfl, hw⟩
          subst hw
          clear hEq
          have hO := open_any p n c xs _ hrw3 bx (by omega)
          by_cases hop : (openR xs).2.2 = 0
          · obtain ⟨d, r2, hod, hdl, hdb, hdx⟩ := openR_form bx hop
            rw [hod] at hO
            have hsn : (sealL d).length ≤ n := by rw [← HX.out, hdx, List.length_append]; exact Nat.le_add_right _ _
            have hfr : xs.take (sealL d).length = sealL d := by rw [hdx, List.take_left]
            clear hop hod hdx hn0
            go_wp2_with fail
            refine hO.mono ?_
            rintro e w6 ⟨p6, c6, rfl, ho6, hb6⟩
            have hrw6 := hrw3.below hb6
            have hbb6 := Below.via hbb3 hb6 (Nat.le_refl _)
            have hS := seal_any _ _ _ _ w6 ho6.rd hdb hdl
            clear hO hrw3 hb6 hbb3 ho6
            go_wp2_with fail
            refine hS.mono ?_
            rintro e w7 ⟨p7, n7, c7, rfl, ho7, hb7⟩
            have hn7 := ho7.len
            have hrw7 := (hrw6.below hb7).front (m := (sealL d).length) hsn
            rw [hfr] at hrw7
            have hbb7 := Below.via hbb6 hb7 (Nat.le_refl _)
            have hEq2 := equal_same _ _ _ _ _ _ _ _ ho7.rd hrw7 (sealL_by hdb)
            generalize (sealL d).length = sl at hsn hEq2 hn7
            subst hn7
            clear hS hrw6 hb7 hbb6 ho7 hrw7 hfr
            go_wp2_with fail
            refine hEq2.mono ?_
            rintro e w8 ⟨rfl, hw⟩
            subst hw
            clear hEq2
            go_wp2_with fail
            refine (awake_any _).mono ?_
            rintro e w9 ⟨rfl, hb9⟩
            have hbb9 := Below.via hbb7 hb9 (Nat.le_refl _)
            go_wp2_with fail
            go_ret
            exact ⟨rfl, hbb9⟩
          · have hz := openR_bad hop
            rw [hz] at hO
            generalize (openR xs).1.length = l5 at hO
            generalize (openR xs).2.2 = e5 at hO hop
            have he5 : ((e5 : Int) != 0) = true := by simp; omega
            clear hop hz hn0
            go_wp2_with fail
            refine hO.mono ?_
            rintro e w6 ⟨p6, c6, rfl, _, hb6⟩
            have hbb6 := Below.via hbb3 hb6 (Nat.le_refl _)
            clear hO hrw3 hb6 hbb3
            go_wp2_with fail
            refine (awake_any _).mono ?_
            rintro e w9 ⟨rfl, hb9⟩
            have hbb9 := Below.via hbb6 hb9 (Nat.le_refl _)
            go_wp2_with fail
            go_ret
            exact ⟨rfl, hbb9⟩
        · have hn1 : n' ≤ 0 := by omega
          clear hgo
          go_wp2_with fail
          refine hLeft.mono ?_
          rintro e w2 ⟨rfl, hw⟩
          subst hw
          go_wp2_with fail
          clear hLeft hErr
          refine hP.mono ?_
          rintro e w3 ⟨p3, c3, rfl, ho3, hb3⟩
          have hR3 := hR.below hb3 hR.lt
          have hrw3 := hrw.below hb3
          have hbb3 := Below.via hb hb3 (Nat.le_refl _)
          have hLeft3 := left_any g _ _ _ _ _ w3 hR3
          have hfr3 := hrw3.front (m := n - n') (by omega)
          rw [hfront] at hfr3
          have hEq := equal_same _ _ _ _ _ _ _ _ ho3.rd hfr3 hbp
          have hcap := hrw3.cap
          clear hP hR hrw hb hb3 hR3 ho3 hfr3 hfront
          go_wp2_with fail
          refine hLeft3.mono ?_
          rintro e w4 ⟨rfl, hw⟩
          subst hw
          clear hLeft3
          go_wp2_with fail
          refine hEq.mono ?_
          rintro e w5 ⟨rfl, hw⟩
          subst hw
          clear hEq
          have hO := open_any p n c xs _ hrw3 bx (by omega)
          by_cases hop : (openR xs).2.2 = 0
          · obtain ⟨d, r2, hod, hdl, hdb, hdx⟩ := openR_form bx hop
            rw [hod] at hO
            have hsn : (sealL d).length ≤ n := by rw [← HX.out, hdx, List.length_append]; exact Nat.le_add_right _ _
            have hfr : xs.take (sealL d).length = sealL d := by rw [hdx, List.take_left]
            clear hop hod hdx hn0
            go_wp2_with fail
            refine hO.mono ?_
            rintro e w6 ⟨p6, c6, rfl, ho6, hb6⟩
            have hrw6 := hrw3.below hb6
            have hbb6 := Below.via hbb3 hb6 (Nat.le_refl _)
            have hS := seal_any _ _ _ _ w6 ho6.rd hdb hdl
            clear hO hrw3 hb6 hbb3 ho6
            go_wp2_with fail
            refine hS.mono ?_
            rintro e w7 ⟨p7, n7, c7, rfl, ho7, hb7⟩
            have hn7 := ho7.len
            have hrw7 := (hrw6.below hb7).front (m := (sealL d).length) hsn
            rw [hfr] at hrw7
            have hbb7 := Below.via hbb6 hb7 (Nat.le_refl _)
            have hEq2 := equal_same _ _ _ _ _ _ _ _ ho7.rd hrw7 (sealL_by hdb)
            generalize (sealL d).length = sl at hsn hEq2 hn7
            subst hn7
            clear hS hrw6 hb7 hbb6 ho7 hrw7 hfr
            go_wp2_with fail
            refine hEq2.mono ?_
            rintro e w8 ⟨rfl, hw⟩
            subst hw
            clear hEq2
            go_wp2_with fail
            refine (awake_any _).mono ?_
            rintro e w9 ⟨rfl, hb9⟩
            have hbb9 := Below.via hbb7 hb9 (Nat.le_refl _)
            go_wp2_with fail
            go_ret
            exact ⟨rfl, hbb9⟩
          · have hz := openR_bad hop
            rw [hz] at hO
            generalize (openR xs).1.length = l5 at hO
            generalize (openR xs).2.2 = e5 at hO hop
            have he5 : ((e5 : Int) != 0) = true := by simp; omega
            clear hop hz hn0
            go_wp2_with fail
            refine hO.mono ?_
            rintro e w6 ⟨p6, c6, rfl, _, hb6⟩
            have hbb6 := Below.via hbb3 hb6 (Nat.le_refl _)
            clear hO hrw3 hb6 hbb3
            go_wp2_with fail
            refine (awake_any _).mono ?_
            rintro e w9 ⟨rfl, hb9⟩
            have hbb9 := Below.via hbb6 hb9 (Nat.le_refl _)
            go_wp2_with fail
            go_ret
            exact ⟨rfl, hbb9⟩

end Go.Proofs.Ytbbcondoenmapab.M
