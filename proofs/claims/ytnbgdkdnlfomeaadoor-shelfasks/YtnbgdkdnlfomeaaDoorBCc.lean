/-
  Own text: whether the cells of a table may be.
-/
import Derived.Test.YtnbgdkdnlfomeaaDoorBDn
namespace Go.Proofs.YtnbgdkdnlfomeaaDoor.M
open Go.ChangeShapes Go.WideShapes Go.ChangeAt Go.RowKit Go.ChangeMaps Go.MapKept Go.Maps Go.Shelf Go.Proofs
set_option linter.unusedSimpArgs false

def ceR (C : List Ce) (i : Nat) : Bool := (i == 0) || decide (cmpN (C.getD (i - 1) .z0).k (C.getD i .z0).k < 0)
def ceO (ix : Int) (C : List Ce) (i : Nat) : Bool := ceR C i && ((rightK (C.getD i .z0).k (C.getD i .z0).s == 0) && isVr ix (C.getD i .z0).v)
def sumC (C : List Ce) : Nat → Int
  | 0 => 0
  | k + 1 => wrap64 (sumC C k + (C.getD k .z0).v)
def areC (ix : Int) (C : List Ce) : Bool := decide (C.length ≤ 12) && ((List.range C.length).all (ceO ix C) && (sumC C C.length == ix))

theorem areC_no {ix : Int} {C : List Ce} {k : Nat} (hk : k < C.length) (h : ceO ix C k = false) : areC ix C = false := by
  unfold areC
  have : (List.range C.length).all (ceO ix C) = false := by
    rw [← Bool.not_eq_true, List.all_eq_true]
    intro e
    have := e k (List.mem_range.2 hk)
    rw [h] at this
    cases this
  rw [this, Bool.false_and, Bool.and_false]

theorem areC_all {ix : Int} {C : List Ce} (hl : C.length ≤ 12) (h : ∀ j, j < C.length → ceO ix C j = true) : areC ix C = (sumC C C.length == ix) := by
  unfold areC
  rw [List.all_eq_true.2 fun j hj => h j (List.mem_range.1 hj), decide_eq_true hl, Bool.true_and, Bool.true_and]

set_option maxRecDepth 20000 in
set_option maxHeartbeats 2000000 in
theorem areC_any (ix ep : Int) (cp : Option Addr) (cn cc : Nat) (dp : Option Addr) (dn dc : Nat) (C : List Ce) (w : World) (hC : RdG celS w cp cn cc C) (hck : ∀ c ∈ C, c.k < 18446744073709551616 ∧ c.s.size ≤ 9223372036854775807) (hTa : Tabs w) :
    Calls Tryd.prog 42 #[.agg #[.int .i64 ix, .int .i64 ep, .slice cp cn cc, .slice dp dn dc]] w fun e w' => e = .returned (.bool (areC ix C)) ∧ Below w.heap.size w w' := by
  have hb := below_alloc' w (.cells #[.int .i64 ix, .int .i64 ep, .slice cp cn cc, .slice dp dn dc] 25)
  have hTb := At.new 25 w #[.int .i64 ix, .int .i64 ep, .slice cp cn cc, .slice dp dn dc]
  have hlen := hC.len
  generalize hres : areC ix C = res
  have HR : Hid (areC ix C = res) := hres
  clear hres
  generalize hW : (w.alloc (.cells #[.int .i64 ix, .int .i64 ep, .slice cp cn cc, .slice dp dn dc] 25)) = W0 at *
  have c2 := hTb.cell 2
  simp only [List.getElem?_toArray, List.getElem?_cons_zero, List.getElem?_cons_succ] at c2
  by_cases h12 : 12 < cn
  · have h12i : (12 : Int) < (cn : Int) := by omega
    have hF : res = false := by rw [← HR.out]; unfold areC; rw [decide_eq_false (by omega), Bool.false_and]
    subst hF
    clear HR
    go_enter Tryd.func42, Tryd.ntmps42
    go_wp2_with fail
    go_ret
    exact ⟨rfl, hb⟩
  have h12i : ¬ (12 : Int) < (cn : Int) := by omega
  go_enter Tryd.func42, Tryd.ntmps42
  go_wp2_with fail
  clear c2 hW
  go_loopw [3, 14] (fun va vi wr => ∃ (k : Nat) (sm : Int), k ≤ cn ∧ vi = .int .i64 k ∧ va = .int .i64 sm ∧ sm = sumC C k ∧ Below w.heap.size w wr ∧ At 25 wr w.heap.size #[.int .i64 ix, .int .i64 ep, .slice cp cn cc, .slice dp dn dc] ∧ Hid (∀ j, j < k → ceO ix C j = true)) (fun _ vi _ => cn - (intOf vi).toNat)
  case atStart => exact ⟨0, 0, Nat.zero_le _, rfl, rfl, rfl, hb, hTb, fun j hj => absurd hj (Nat.not_lt_zero _)⟩
  case round =>
    clear hb hTb
    obtain ⟨k, sm, hk, rfl, rfl, hsm, HB, hTb, HA⟩ := hrel
    by_cases hkn : k < cn
    · have hki : (k : Int) < (cn : Int) := by omega
      obtain ⟨bb, o, rfl, hc⟩ := (hC.below HB).ces (by omega)
      obtain ⟨x0, x1, x2, x3, x4, x5, x6, x7, x8, x9⟩ := hc k hkn
      have HO : Hid (ceO ix C k = (ceR C k && ((rightK (C.getD k .z0).k (C.getD k .z0).s == 0) && isVr ix (C.getD k .z0).v))) := rfl
      have HQ : Hid (ceR C k = ((k == 0) || decide (cmpN (C.getD (k - 1) .z0).k (C.getD k .z0).k < 0))) := rfl
      have HSum : Hid (wrap64 (sm + (C.getD k .z0).v) = sumC C (k + 1)) := by unfold Hid; rw [hsm]; rfl
      have hcx := hck (C.getD k .z0) (by rw [List.getD_eq_getElem?_getD, List.getElem?_eq_getElem (by omega)]; exact List.getElem_mem (by omega))
      clear hsm
      generalize C.getD k .z0 = x at *
      obtain ⟨xk, xv, xs⟩ := x
      dsimp only at *
      obtain ⟨hxk, hxs⟩ := hcx
      have hba := below_alloc' wr (.cells #[.int .u8 (bt (Ce.mk xk xv xs).k 0), .int .u8 (bt (Ce.mk xk xv xs).k 1), .int .u8 (bt (Ce.mk xk xv xs).k 2), .int .u8 (bt (Ce.mk xk xv xs).k 3), .int .u8 (bt (Ce.mk xk xv xs).k 4), .int .u8 (bt (Ce.mk xk xv xs).k 5), .int .u8 (bt (Ce.mk xk xv xs).k 6), .int .u8 (bt (Ce.mk xk xv xs).k 7), .int .i64 (Ce.mk xk xv xs).v, .string (Ce.mk xk xv xs).s] 53)
      have hX : At 53 (wr.alloc (.cells #[.int .u8 (bt (Ce.mk xk xv xs).k 0), .int .u8 (bt (Ce.mk xk xv xs).k 1), .int .u8 (bt (Ce.mk xk xv xs).k 2), .int .u8 (bt (Ce.mk xk xv xs).k 3), .int .u8 (bt (Ce.mk xk xv xs).k 4), .int .u8 (bt (Ce.mk xk xv xs).k 5), .int .u8 (bt (Ce.mk xk xv xs).k 6), .int .u8 (bt (Ce.mk xk xv xs).k 7), .int .i64 (Ce.mk xk xv xs).v, .string (Ce.mk xk xv xs).s] 53)) wr.heap.size #[.int .u8 (bt (Ce.mk xk xv xs).k 0), .int .u8 (bt (Ce.mk xk xv xs).k 1), .int .u8 (bt (Ce.mk xk xv xs).k 2), .int .u8 (bt (Ce.mk xk xv xs).k 3), .int .u8 (bt (Ce.mk xk xv xs).k 4), .int .u8 (bt (Ce.mk xk xv xs).k 5), .int .u8 (bt (Ce.mk xk xv xs).k 6), .int .u8 (bt (Ce.mk xk xv xs).k 7), .int .i64 (Ce.mk xk xv xs).v, .string (Ce.mk xk xv xs).s] := At.new _ _ _
      have HB3 := HB.trans (hba.mono HB.size)
      replace hTb := hTb.below hba
      have hc3 := (hC.below HB3).ces (by omega)
      obtain ⟨bb2, o2, eb, hc3⟩ := hc3
      cases eb
      dsimp only at *
      clear hc
      go_wp2_with fail
      generalize (wr.alloc (.cells #[.int .u8 (bt (Ce.mk xk xv xs).k 0), .int .u8 (bt (Ce.mk xk xv xs).k 1), .int .u8 (bt (Ce.mk xk xv xs).k 2), .int .u8 (bt (Ce.mk xk xv xs).k 3), .int .u8 (bt (Ce.mk xk xv xs).k 4), .int .u8 (bt (Ce.mk xk xv xs).k 5), .int .u8 (bt (Ce.mk xk xv xs).k 6), .int .u8 (bt (Ce.mk xk xv xs).k 7), .int .i64 (Ce.mk xk xv xs).v, .string (Ce.mk xk xv xs).s] 53)) = V3 at *
      generalize wr.heap.size = g4 at *
      clear hba x0 x1 x2 x3 x4 x5 x6 x7 x8 x9
      have hkl : k < C.length := by omega
      have hS0 : Bl V3 V3.drew := (Below.refl _ _).drew
      by_cases hkz : k = 0
      · have hk0 : ((k : Int) == 0) = true := by rw [hkz]; rfl
        have hk00 : (k == 0) = true := by rw [hkz]; rfl
        have HRr : Hid (ceR C k = true) := by unfold Hid; rw [HQ.out, hk00, Bool.true_or]
        refine wp_region_det [0, 1, 2, 3, 4, 5, 6, 7, 8, 9, 10, 11, 12, 13, 14, 15] (Bl V3) (Bl V3) (by kernel_rfl) hS0 ?_
        refine wpDet_take ?vW0 (Bl.stays V3) (fun _ h => h) (i := 0) rfl (by kernel_rfl) (by kernel_rfl) (by kernel_rfl) (by kernel_rfl) (fun _ _ _ h => h) (Gives.value (by rfl) ?yW0) ?rW0
        case yW0 => (intro w' hSw; (try dsimp only at hSw); go_simp; try with_reducible rfl)
        (try simp only [Act.put, List.getElem_toArray, List.getElem_cons_zero, List.getElem_cons_succ, List.setIfInBounds_toArray, List.set_cons_zero, List.set_cons_succ])
        refine wpDet_take (.bool true) (Bl.stays V3) (fun _ h => h) (i := 1) rfl (by kernel_rfl) (by kernel_rfl) (by kernel_rfl) (by kernel_rfl) (fun _ _ _ h => h) (Gives.value (by rfl) ?yW1) ?rW1
        case yW1 => (intro w' hSw; (try dsimp only at hSw); go_simp; first | done | rfl | exact congrArg Value.bool hk0 | omega)
        (try simp only [Act.put, List.getElem_toArray, List.getElem_cons_zero, List.getElem_cons_succ, List.setIfInBounds_toArray, List.set_cons_zero, List.set_cons_succ])
        refine wpDet_take ?vW2 (Bl.stays V3) (fun _ h => h) (i := 2) rfl (by kernel_rfl) (by kernel_rfl) (by kernel_rfl) (by kernel_rfl) (fun _ _ _ h => h) (Gives.value (by rfl) ?yW2) ?rW2
        case yW2 => (intro w' hSw; (try dsimp only at hSw); go_simp; try with_reducible rfl)
        (try simp only [Act.put, List.getElem_toArray, List.getElem_cons_zero, List.getElem_cons_succ, List.setIfInBounds_toArray, List.set_cons_zero, List.set_cons_succ])
        refine wpDet_take undef (Bl.stays V3) (fun _ h => h) (i := 3) rfl (by kernel_rfl) (by kernel_rfl) (by kernel_rfl) (by kernel_rfl) (fun _ _ _ h => h) (Gives.not (by rfl)) ?_
        (try simp only [Act.put, List.getElem_toArray, List.getElem_cons_zero, List.getElem_cons_succ, List.setIfInBounds_toArray, List.set_cons_zero, List.set_cons_succ])
        refine wpDet_take undef (Bl.stays V3) (fun _ h => h) (i := 4) rfl (by kernel_rfl) (by kernel_rfl) (by kernel_rfl) (by kernel_rfl) (fun _ _ _ h => h) (Gives.not (by rfl)) ?_
        (try simp only [Act.put, List.getElem_toArray, List.getElem_cons_zero, List.getElem_cons_succ, List.setIfInBounds_toArray, List.set_cons_zero, List.set_cons_succ])
        refine wpDet_take undef (Bl.stays V3) (fun _ h => h) (i := 5) rfl (by kernel_rfl) (by kernel_rfl) (by kernel_rfl) (by kernel_rfl) (fun _ _ _ h => h) (Gives.not (by rfl)) ?_
        (try simp only [Act.put, List.getElem_toArray, List.getElem_cons_zero, List.getElem_cons_succ, List.setIfInBounds_toArray, List.set_cons_zero, List.set_cons_succ])
        refine wpDet_take undef (Bl.stays V3) (fun _ h => h) (i := 6) rfl (by kernel_rfl) (by kernel_rfl) (by kernel_rfl) (by kernel_rfl) (fun _ _ _ h => h) (Gives.not (by rfl)) ?_
        (try simp only [Act.put, List.getElem_toArray, List.getElem_cons_zero, List.getElem_cons_succ, List.setIfInBounds_toArray, List.set_cons_zero, List.set_cons_succ])
        refine wpDet_take undef (Bl.stays V3) (fun _ h => h) (i := 7) rfl (by kernel_rfl) (by kernel_rfl) (by kernel_rfl) (by kernel_rfl) (fun _ _ _ h => h) (Gives.not (by rfl)) ?_
        (try simp only [Act.put, List.getElem_toArray, List.getElem_cons_zero, List.getElem_cons_succ, List.setIfInBounds_toArray, List.set_cons_zero, List.set_cons_succ])
        refine wpDet_take undef (Bl.stays V3) (fun _ h => h) (i := 8) rfl (by kernel_rfl) (by kernel_rfl) (by kernel_rfl) (by kernel_rfl) (fun _ _ _ h => h) (Gives.not (by rfl)) ?_
        (try simp only [Act.put, List.getElem_toArray, List.getElem_cons_zero, List.getElem_cons_succ, List.setIfInBounds_toArray, List.set_cons_zero, List.set_cons_succ])
        refine wpDet_take undef (Bl.stays V3) (fun _ h => h) (i := 9) rfl (by kernel_rfl) (by kernel_rfl) (by kernel_rfl) (by kernel_rfl) (fun _ _ _ h => h) (Gives.not (by rfl)) ?_
        (try simp only [Act.put, List.getElem_toArray, List.getElem_cons_zero, List.getElem_cons_succ, List.setIfInBounds_toArray, List.set_cons_zero, List.set_cons_succ])
        refine wpDet_take undef (Bl.stays V3) (fun _ h => h) (i := 10) rfl (by kernel_rfl) (by kernel_rfl) (by kernel_rfl) (by kernel_rfl) (fun _ _ _ h => h) (Gives.not (by rfl)) ?_
        (try simp only [Act.put, List.getElem_toArray, List.getElem_cons_zero, List.getElem_cons_succ, List.setIfInBounds_toArray, List.set_cons_zero, List.set_cons_succ])
        refine wpDet_take undef (Bl.stays V3) (fun _ h => h) (i := 11) rfl (by kernel_rfl) (by kernel_rfl) (by kernel_rfl) (by kernel_rfl) (fun _ _ _ h => h) (Gives.not (by rfl)) ?_
        (try simp only [Act.put, List.getElem_toArray, List.getElem_cons_zero, List.getElem_cons_succ, List.setIfInBounds_toArray, List.set_cons_zero, List.set_cons_succ])
        refine wpDet_take undef (Bl.stays V3) (fun _ h => h) (i := 12) rfl (by kernel_rfl) (by kernel_rfl) (by kernel_rfl) (by kernel_rfl) (fun _ _ _ h => h) (Gives.not (by rfl)) ?_
        (try simp only [Act.put, List.getElem_toArray, List.getElem_cons_zero, List.getElem_cons_succ, List.setIfInBounds_toArray, List.set_cons_zero, List.set_cons_succ])
        refine wpDet_take undef (Bl.stays V3) (fun _ h => h) (i := 13) rfl (by kernel_rfl) (by kernel_rfl) (by kernel_rfl) (by kernel_rfl) (fun _ _ _ h => h) (Gives.not (by rfl)) ?_
        (try simp only [Act.put, List.getElem_toArray, List.getElem_cons_zero, List.getElem_cons_succ, List.setIfInBounds_toArray, List.set_cons_zero, List.set_cons_succ])
        refine wpDet_take ?vW14 (Bl.stays V3) (fun _ h => h) (i := 14) rfl (by kernel_rfl) (by kernel_rfl) (by kernel_rfl) (by kernel_rfl) (fun _ _ _ h => h) (Gives.value (by rfl) ?yW14) ?rW14
        case yW14 => (intro w' hSw; (try dsimp only at hSw); go_simp; try with_reducible rfl)
        (try simp only [Act.put, List.getElem_toArray, List.getElem_cons_zero, List.getElem_cons_succ, List.setIfInBounds_toArray, List.set_cons_zero, List.set_cons_succ])
        refine wpDet_take ?vW15 (Bl.stays V3) (fun _ h => h) (i := 15) rfl (by kernel_rfl) (by kernel_rfl) (by kernel_rfl) (by kernel_rfl) (fun _ _ _ h => h) (Gives.value (by rfl) ?yW15) ?rW15
        case yW15 => (intro w' hSw; (try dsimp only at hSw); go_simp; try with_reducible rfl)
        (try simp only [Act.put, List.getElem_toArray, List.getElem_cons_zero, List.getElem_cons_succ, List.setIfInBounds_toArray, List.set_cons_zero, List.set_cons_succ])
        refine wpDet_done (by kernel_rfl) (fun W9 hV => ?_) _
        replace HB := HB3.trans ((Bl.out hV).mono HB3.size)
        replace hTb := hTb.below (Bl.out hV)
        replace hX := hX.below (Bl.out hV)
        clear hV HB3
        have cR := right_any xk xs hxs W9 (hTa.up HB)
        obtain ⟨y0, y1, y2, y3, y4, y5, y6, y7, y8, y9⟩ := cel_box (x := ⟨xk, xv, xs⟩) hX
        have HP : Hid (∀ r1 r2 : Bool, (rightK xk xs == 0) = r1 → isVr ix xv = r2 → ceO ix C k = (r1 && r2)) := fun r1 r2 h1 h2 => by rw [HO.out, HRr.out, h1, h2]; rfl
        generalize hrq : rightK xk xs = rq at cR HP
        by_cases hq : rq = 0
        · subst hq
          go_wp2_with fail
          refine cR.mono ?_
          rintro e w10 ⟨rfl, hb10⟩
          replace HB := HB.trans (hb10.mono HB.size)
          replace hTb := hTb.below hb10
          replace hX := hX.below hb10
          clear cR y0 y1 y2 y3 y4 y5 y6 y7 y8 y9 hb10
          have cV := isVr_any ix ep (some ⟨bb, o, none⟩) cn cc dp dn dc xv w10
          obtain ⟨y0, y1, y2, y3, y4, y5, y6, y7, y8, y9⟩ := cel_box (x := ⟨xk, xv, xs⟩) hX
          have z0 := hTb.cell 0
          have z1 := hTb.cell 1
          have z2 := hTb.cell 2
          have z3 := hTb.cell 3
          simp only [List.getElem?_toArray, List.getElem?_cons_zero, List.getElem?_cons_succ] at z0 z1 z2 z3
          generalize hvr : isVr ix xv = vr at cV
          cases vr with
          | false =>
            have hF : res = false := by rw [← HR.out]; exact areC_no hkl (HP.out true false rfl hvr)
            subst hF
            clear HP HO HQ HR HRr
            go_wp2_with fail
            refine cV.mono ?_
            rintro e w11 ⟨rfl, hb11⟩
            replace HB := HB.trans (hb11.mono HB.size)
            clear cV z0 z1 z2 z3 y0 y1 y2 y3 y4 y5 y6 y7 y8 y9
            go_wp2_with fail
            go_ret
            exact ⟨rfl, HB⟩
          | true =>
            have hAN : Hid (∀ j, j < k + 1 → ceO ix C j = true) := fun j hj => by
              by_cases e : j = k
              · rw [e]; exact HP.out true true rfl hvr
              · exact HA.out j (by omega)
            clear HP HO HQ HRr HA
            go_wp2_with fail
            refine cV.mono ?_
            rintro e w11 ⟨rfl, hb11⟩
            replace HB := HB.trans (hb11.mono HB.size)
            replace hTb := hTb.below hb11
            replace hX := hX.below hb11
            clear cV z0 z1 z2 z3 y0 y1 y2 y3 y4 y5 y6 y7 y8 y9
            have y8 := (cel_box (x := ⟨xk, xv, xs⟩) hX).2.2.2.2.2.2.2.2.1
            dsimp only at y8
            go_wp2_with fail
            exact ⟨⟨k + 1, _, by omega, by go_num, rfl, HSum.out, HB, hTb, hAN⟩, by simp [intOf]; omega⟩
        · have hF : res = false := by rw [← HR.out]; exact areC_no hkl (HP.out false _ (by simpa using hq) rfl)
          have hq2 : ¬ (0 : Int) = rq := fun e => hq e.symm
          subst hF
          clear HP HO HQ HR HRr
          go_wp2_with fail
          refine cR.mono ?_
          rintro e w10 ⟨rfl, hb10⟩
          replace HB := HB.trans (hb10.mono HB.size)
          clear cR y0 y1 y2 y3 y4 y5 y6 y7 y8 y9
          go_wp2_with fail
          go_ret
          exact ⟨rfl, HB⟩
      · obtain ⟨j, rfl⟩ : ∃ j, k = j + 1 := ⟨k - 1, by omega⟩
        have hk0 : (((j + 1 : Nat) : Int) == 0) = false := by simp; omega
        obtain ⟨d0, d1, d2, d3, d4, d5, d6, d7, _⟩ := hc3 j (by omega)
        have hj : (j : Int) < (cn : Int) := by omega
        have HRr : Hid (ceR C (j + 1) = decide (cmpN (C.getD j .z0).k xk < 0)) := by unfold Hid; rw [HQ.out]; simp
        have hpk := (hck (C.getD j .z0) (by rw [List.getD_eq_getElem?_getD, List.getElem?_eq_getElem (by omega)]; exact List.getElem_mem (by omega))).1
        generalize (C.getD j .z0).k = pk at *
        refine wp_region_det [0, 1, 2, 3, 4, 5, 6, 7, 8, 9, 10, 11, 12, 13, 14, 15] (Bl V3) (Bl V3) (by kernel_rfl) hS0 ?_
        refine wpDet_take ?vX0 (Bl.stays V3) (fun _ h => h) (i := 0) rfl (by kernel_rfl) (by kernel_rfl) (by kernel_rfl) (by kernel_rfl) (fun _ _ _ h => h) (Gives.value (by rfl) ?yX0) ?rX0
        case yX0 => (intro w' hSw; (try dsimp only at hSw); go_simp; try with_reducible rfl)
        (try simp only [Act.put, List.getElem_toArray, List.getElem_cons_zero, List.getElem_cons_succ, List.setIfInBounds_toArray, List.set_cons_zero, List.set_cons_succ])
        refine wpDet_take (.bool false) (Bl.stays V3) (fun _ h => h) (i := 1) rfl (by kernel_rfl) (by kernel_rfl) (by kernel_rfl) (by kernel_rfl) (fun _ _ _ h => h) (Gives.value (by rfl) ?yX1) ?rX1
        case yX1 => (intro w' hSw; (try dsimp only at hSw); go_simp; first | done | rfl | exact congrArg Value.bool hk0 | omega)
        (try simp only [Act.put, List.getElem_toArray, List.getElem_cons_zero, List.getElem_cons_succ, List.setIfInBounds_toArray, List.set_cons_zero, List.set_cons_succ])
        refine wpDet_take ?vX2 (Bl.stays V3) (fun _ h => h) (i := 2) rfl (by kernel_rfl) (by kernel_rfl) (by kernel_rfl) (by kernel_rfl) (fun _ _ _ h => h) (Gives.value (by rfl) ?yX2) ?rX2
        case yX2 => (intro w' hSw; (try dsimp only at hSw); go_simp; try with_reducible rfl)
        (try simp only [Act.put, List.getElem_toArray, List.getElem_cons_zero, List.getElem_cons_succ, List.setIfInBounds_toArray, List.set_cons_zero, List.set_cons_succ])
        refine wpDet_take ?vX3 (Bl.stays V3) (fun _ h => h) (i := 3) rfl (by kernel_rfl) (by kernel_rfl) (by kernel_rfl) (by kernel_rfl) (fun _ _ _ h => h) (Gives.value (by rfl) ?yX3) ?rX3
        case yX3 => (intro w' hSw; (try dsimp only at hSw); go_simp; try with_reducible rfl)
        (try simp only [Act.put, List.getElem_toArray, List.getElem_cons_zero, List.getElem_cons_succ, List.setIfInBounds_toArray, List.set_cons_zero, List.set_cons_succ])
        refine wpDet_take ?vX4 (Bl.stays V3) (fun _ h => h) (i := 4) rfl (by kernel_rfl) (by kernel_rfl) (by kernel_rfl) (by kernel_rfl) (fun _ _ _ h => h) (Gives.value (by rfl) ?yX4) ?rX4
        case yX4 => (intro w' hSw; have t3 := At.cell (hTb.below (Bl.out hSw)) 2; simp only [List.getElem?_toArray, List.getElem?_cons_zero, List.getElem?_cons_succ] at t3; (try dsimp only at hSw); go_simp; try with_reducible rfl)
        (try simp only [Act.put, List.getElem_toArray, List.getElem_cons_zero, List.getElem_cons_succ, List.setIfInBounds_toArray, List.set_cons_zero, List.set_cons_succ])
        refine wpDet_take ?vX5 (Bl.stays V3) (fun _ h => h) (i := 5) rfl (by kernel_rfl) (by kernel_rfl) (by kernel_rfl) (by kernel_rfl) (fun _ _ _ h => h) (Gives.value (by rfl) ?yX5) ?rX5
        case yX5 => (intro w' hSw; (try dsimp only at hSw); go_simp; try with_reducible rfl)
        (try simp only [Act.put, List.getElem_toArray, List.getElem_cons_zero, List.getElem_cons_succ, List.setIfInBounds_toArray, List.set_cons_zero, List.set_cons_succ])
        refine wpDet_take (.int .i64 (j : Int)) (Bl.stays V3) (fun _ h => h) (i := 6) rfl (by kernel_rfl) (by kernel_rfl) (by kernel_rfl) (by kernel_rfl) (fun _ _ _ h => h) (Gives.value (by rfl) ?yX6) ?rX6
        case yX6 => (intro w' hSw; (try dsimp only at hSw); go_simp; rw [IntKind.wrap_i64]; omega)
        (try simp only [Act.put, List.getElem_toArray, List.getElem_cons_zero, List.getElem_cons_succ, List.setIfInBounds_toArray, List.set_cons_zero, List.set_cons_succ])
        refine wpDet_take ?vX7 (Bl.stays V3) (fun _ h => h) (i := 7) rfl (by kernel_rfl) (by kernel_rfl) (by kernel_rfl) (by kernel_rfl) (fun _ _ _ h => h) (Gives.value (by rfl) ?yX7) ?rX7
        case yX7 => (intro w' hSw; (try dsimp only at hSw); go_simp; try with_reducible rfl)
        (try simp only [Act.put, List.getElem_toArray, List.getElem_cons_zero, List.getElem_cons_succ, List.setIfInBounds_toArray, List.set_cons_zero, List.set_cons_succ])
        refine wpDet_take ?vX8 (Bl.stays V3) (fun _ h => h) (i := 8) rfl (by kernel_rfl) (by kernel_rfl) (by kernel_rfl) (by kernel_rfl) (fun _ _ _ h => h) (Gives.value (by rfl) ?yX8) ?rX8
        case yX8 => (intro w' hSw; (try dsimp only at hSw); go_simp; try with_reducible rfl)
        (try simp only [Act.put, List.getElem_toArray, List.getElem_cons_zero, List.getElem_cons_succ, List.setIfInBounds_toArray, List.set_cons_zero, List.set_cons_succ])
        refine wpDet_take ?vX9 (Bl.stays V3) (fun _ h => h) (i := 9) rfl (by kernel_rfl) (by kernel_rfl) (by kernel_rfl) (by kernel_rfl) (fun _ _ _ h => h) (Gives.value (by rfl) ?yX9) ?rX9
        case yX9 => (intro w' hSw; have p0 := cell_at (Bl.out hSw) d0; have p1 := cell_at (Bl.out hSw) d1; have p2 := cell_at (Bl.out hSw) d2; have p3 := cell_at (Bl.out hSw) d3; have p4 := cell_at (Bl.out hSw) d4; have p5 := cell_at (Bl.out hSw) d5; have p6 := cell_at (Bl.out hSw) d6; have p7 := cell_at (Bl.out hSw) d7; (try dsimp only at hSw); go_simp; try with_reducible rfl)
        (try simp only [Act.put, List.getElem_toArray, List.getElem_cons_zero, List.getElem_cons_succ, List.setIfInBounds_toArray, List.set_cons_zero, List.set_cons_succ])
        refine wpDet_take ?vX10 (Bl.stays V3) (fun _ h => h) (i := 10) rfl (by kernel_rfl) (by kernel_rfl) (by kernel_rfl) (by kernel_rfl) (fun _ _ _ h => h) (Gives.value (by rfl) ?yX10) ?rX10
        case yX10 => (intro w' hSw; (try dsimp only at hSw); go_simp; try with_reducible rfl)
        (try simp only [Act.put, List.getElem_toArray, List.getElem_cons_zero, List.getElem_cons_succ, List.setIfInBounds_toArray, List.set_cons_zero, List.set_cons_succ])
        refine wpDet_take ?vX11 (Bl.stays V3) (fun _ h => h) (i := 11) rfl (by kernel_rfl) (by kernel_rfl) (by kernel_rfl) (by kernel_rfl) (fun _ _ _ h => h) (Gives.value (by rfl) ?yX11) ?rX11
        case yX11 => (intro w' hSw; obtain ⟨y0, y1, y2, y3, y4, y5, y6, y7, y8, y9⟩ := cel_box (x := ⟨xk, xv, xs⟩) (hX.below (Bl.out hSw)); (try dsimp only at hSw); go_simp; try with_reducible rfl)
        (try simp only [Act.put, List.getElem_toArray, List.getElem_cons_zero, List.getElem_cons_succ, List.setIfInBounds_toArray, List.set_cons_zero, List.set_cons_succ])
        refine wpDet_take (.int .i64 (cmpN pk xk)) (Bl.stays V3) (fun _ h => h) (i := 12) rfl (by kernel_rfl) (by kernel_rfl) (by kernel_rfl) (by kernel_rfl) (fun _ _ _ h => h) (Gives.call 63 #[.agg #[.int .u8 (bt (pk) 0), .int .u8 (bt (pk) 1), .int .u8 (bt (pk) 2), .int .u8 (bt (pk) 3), .int .u8 (bt (pk) 4), .int .u8 (bt (pk) 5), .int .u8 (bt (pk) 6), .int .u8 (bt (pk) 7)], .agg #[.int .u8 (bt (xk) 0), .int .u8 (bt (xk) 1), .int .u8 (bt (xk) 2), .int .u8 (bt (xk) 3), .int .u8 (bt (xk) 4), .int .u8 (bt (xk) 5), .int .u8 (bt (xk) 6), .int .u8 (bt (xk) 7)]] (by rfl) (fun _ => by first | (go_simp; done) | (go_simp; rfl)) (fun W hW => compare_any hpk hxk W)) ?_
        (try simp only [Act.put, List.getElem_toArray, List.getElem_cons_zero, List.getElem_cons_succ, List.setIfInBounds_toArray, List.set_cons_zero, List.set_cons_succ])
        refine wpDet_take ?vX13 (Bl.stays V3) (fun _ h => h) (i := 13) rfl (by kernel_rfl) (by kernel_rfl) (by kernel_rfl) (by kernel_rfl) (fun _ _ _ h => h) (Gives.value (by rfl) ?yX13) ?rX13
        case yX13 => (intro w' hSw; (try dsimp only at hSw); go_simp; try with_reducible rfl)
        (try simp only [Act.put, List.getElem_toArray, List.getElem_cons_zero, List.getElem_cons_succ, List.setIfInBounds_toArray, List.set_cons_zero, List.set_cons_succ])
        refine wpDet_take ?vX14 (Bl.stays V3) (fun _ h => h) (i := 14) rfl (by kernel_rfl) (by kernel_rfl) (by kernel_rfl) (by kernel_rfl) (fun _ _ _ h => h) (Gives.value (by rfl) ?yX14) ?rX14
        case yX14 => (intro w' hSw; (try dsimp only at hSw); go_simp; try with_reducible rfl)
        (try simp only [Act.put, List.getElem_toArray, List.getElem_cons_zero, List.getElem_cons_succ, List.setIfInBounds_toArray, List.set_cons_zero, List.set_cons_succ])
        refine wpDet_take ?vX15 (Bl.stays V3) (fun _ h => h) (i := 15) rfl (by kernel_rfl) (by kernel_rfl) (by kernel_rfl) (by kernel_rfl) (fun _ _ _ h => h) (Gives.value (by rfl) ?yX15) ?rX15
        case yX15 => (intro w' hSw; (try dsimp only at hSw); go_simp; try with_reducible rfl)
        (try simp only [Act.put, List.getElem_toArray, List.getElem_cons_zero, List.getElem_cons_succ, List.setIfInBounds_toArray, List.set_cons_zero, List.set_cons_succ])
        refine wpDet_done (by kernel_rfl) (fun W9 hV => ?_) _
        replace HB := HB3.trans ((Bl.out hV).mono HB3.size)
        replace hTb := hTb.below (Bl.out hV)
        replace hX := hX.below (Bl.out hV)
        clear hV HB3
        generalize decide (cmpN pk xk < 0) = rr at *
        cases rr with
        | false =>
          have hF : res = false := by rw [← HR.out]; exact areC_no hkl (by rw [HO.out, HRr.out]; rfl)
          subst hF
          clear HO HQ HR HRr
          go_wp2_with fail
          go_ret
          exact ⟨rfl, HB⟩
        | true =>
          have cR := right_any xk xs hxs W9 (hTa.up HB)
          obtain ⟨y0, y1, y2, y3, y4, y5, y6, y7, y8, y9⟩ := cel_box (x := ⟨xk, xv, xs⟩) hX
          have HP : Hid (∀ r1 r2 : Bool, (rightK xk xs == 0) = r1 → isVr ix xv = r2 → ceO ix C (j + 1) = (r1 && r2)) := fun r1 r2 h1 h2 => by rw [HO.out, HRr.out, h1, h2]; rfl
          generalize hrq : rightK xk xs = rq at cR HP
          by_cases hq : rq = 0
          · subst hq
            go_wp2_with fail
            refine cR.mono ?_
            rintro e w10 ⟨rfl, hb10⟩
            replace HB := HB.trans (hb10.mono HB.size)
            replace hTb := hTb.below hb10
            replace hX := hX.below hb10
            clear cR y0 y1 y2 y3 y4 y5 y6 y7 y8 y9 hb10
            have cV := isVr_any ix ep (some ⟨bb, o, none⟩) cn cc dp dn dc xv w10
            obtain ⟨y0, y1, y2, y3, y4, y5, y6, y7, y8, y9⟩ := cel_box (x := ⟨xk, xv, xs⟩) hX
            have z0 := hTb.cell 0
            have z1 := hTb.cell 1
            have z2 := hTb.cell 2
            have z3 := hTb.cell 3
            simp only [List.getElem?_toArray, List.getElem?_cons_zero, List.getElem?_cons_succ] at z0 z1 z2 z3
            generalize hvr : isVr ix xv = vr at cV
            cases vr with
            | false =>
              have hF : res = false := by rw [← HR.out]; exact areC_no hkl (HP.out true false rfl hvr)
              subst hF
              clear HP HO HQ HR HRr
              go_wp2_with fail
              refine cV.mono ?_
              rintro e w11 ⟨rfl, hb11⟩
              replace HB := HB.trans (hb11.mono HB.size)
              clear cV z0 z1 z2 z3 y0 y1 y2 y3 y4 y5 y6 y7 y8 y9
              go_wp2_with fail
              go_ret
              exact ⟨rfl, HB⟩
            | true =>
              have hAN : Hid (∀ j2, j2 < j + 1 + 1 → ceO ix C j2 = true) := fun j2 hj2 => by
                by_cases e : j2 = j + 1
                · rw [e]; exact HP.out true true rfl hvr
                · exact HA.out j2 (by omega)
              clear HP HO HQ HRr HA
              go_wp2_with fail
              refine cV.mono ?_
              rintro e w11 ⟨rfl, hb11⟩
              replace HB := HB.trans (hb11.mono HB.size)
              replace hTb := hTb.below hb11
              replace hX := hX.below hb11
              clear cV z0 z1 z2 z3 y0 y1 y2 y3 y4 y5 y6 y7 y8 y9
              have y8 := (cel_box (x := ⟨xk, xv, xs⟩) hX).2.2.2.2.2.2.2.2.1
              dsimp only at y8
              go_wp2_with fail
              exact ⟨⟨j + 1 + 1, _, by omega, by go_num, rfl, HSum.out, HB, hTb, hAN⟩, by simp [intOf]; omega⟩
          · have hF : res = false := by rw [← HR.out]; exact areC_no hkl (HP.out false _ (by simpa using hq) rfl)
            have hq2 : ¬ (0 : Int) = rq := fun e => hq e.symm
            subst hF
            clear HP HO HQ HR HRr
            go_wp2_with fail
            refine cR.mono ?_
            rintro e w10 ⟨rfl, hb10⟩
            replace HB := HB.trans (hb10.mono HB.size)
            clear cR y0 y1 y2 y3 y4 y5 y6 y7 y8 y9
            go_wp2_with fail
            go_ret
            exact ⟨rfl, HB⟩
    · have hki : ¬ (k : Int) < (cn : Int) := by omega
      obtain rfl : k = cn := by omega
      have hF : res = (sm == ix) := by rw [← HR.out, areC_all (by omega) fun j hj => HA.out j (by omega), hlen, hsm]
      subst hF
      have z0 := hTb.cell 0
      simp only [List.getElem?_toArray, List.getElem?_cons_zero, List.getElem?_cons_succ] at z0
      clear HR HA hsm
      go_wp2_with fail
      go_ret
      exact ⟨rfl, HB⟩

end Go.Proofs.YtnbgdkdnlfomeaaDoor.M
