/-
  Own text: whether what clients got may be.
-/
import Derived.Test.YtnbgdkdnlfomeaaDoorBChk
namespace Go.Proofs.YtnbgdkdnlfomeaaDoor.M
open Go.ChangeShapes Go.WideShapes Go.ChangeAt Go.RowKit Go.ChangeMaps Go.MapKept Go.Maps Go.Shelf Go.Proofs
set_option linter.unusedSimpArgs false

def dnR (D : List Dn) (i : Nat) : Bool := (i == 0) || decide ((D.getD (i - 1) .z0).c < (D.getD i .z0).c)
def dnO (ix : Int) (D : List Dn) (i : Nat) : Bool := dnR D i && (isRq (D.getD i .z0).c (D.getD i .z0).q && isVr ix (D.getD i .z0).v)
def areD (ix : Int) (D : List Dn) : Bool := (List.range D.length).all (dnO ix D) && (decide (0 < D.length) || ix == 0)

theorem areD_no {ix : Int} {D : List Dn} {k : Nat} (hk : k < D.length) (h : dnO ix D k = false) : areD ix D = false := by
  unfold areD
  have : (List.range D.length).all (dnO ix D) = false := by
    rw [← Bool.not_eq_true, List.all_eq_true]
    intro e
    have := e k (List.mem_range.2 hk)
    rw [h] at this
    cases this
  rw [this, Bool.false_and]

theorem areD_all {ix : Int} {D : List Dn} (h : ∀ j, j < D.length → dnO ix D j = true) : areD ix D = (decide (0 < D.length) || ix == 0) := by
  unfold areD
  rw [List.all_eq_true.2 fun j hj => h j (List.mem_range.1 hj), Bool.true_and]

theorem cell_at {w W : World} {p : Addr} {v : Value} (hb : Below w.heap.size w W) (h : w.cell? p = some v) : W.cell? p = some v := (hb.cell (World.block_lt_of_cell? _ _ h)).trans h

set_option maxRecDepth 20000 in
set_option maxHeartbeats 2000000 in
theorem areD_any (ix ep : Int) (cp : Option Addr) (cn cc : Nat) (dp : Option Addr) (dn dc : Nat) (D : List Dn) (w : World) (hD : RdG donS w dp dn dc D) (hn : dn ≤ 1099511627776) :
    Calls Tryd.prog 43 #[.agg #[.int .i64 ix, .int .i64 ep, .slice cp cn cc, .slice dp dn dc]] w fun e w' => e = .returned (.bool (areD ix D)) ∧ Below w.heap.size w w' := by
  have hb := below_alloc' w (.cells #[.int .i64 ix, .int .i64 ep, .slice cp cn cc, .slice dp dn dc] 25)
  have hTb := At.new 25 w #[.int .i64 ix, .int .i64 ep, .slice cp cn cc, .slice dp dn dc]
  have hlen := hD.len
  generalize hres : areD ix D = res
  have HR : Hid (areD ix D = res) := hres
  clear hres
  generalize hW : (w.alloc (.cells #[.int .i64 ix, .int .i64 ep, .slice cp cn cc, .slice dp dn dc] 25)) = W0 at *
  have c3 := hTb.cell 3
  simp only [List.getElem?_toArray, List.getElem?_cons_zero, List.getElem?_cons_succ] at c3
  go_enter Tryd.func43, Tryd.ntmps43
  go_wp2_with fail
  clear c3 hW
  go_loopw [9] (fun vi wr => ∃ (k : Nat), k ≤ dn ∧ vi = .int .i64 k ∧ Below w.heap.size w wr ∧ At 25 wr w.heap.size #[.int .i64 ix, .int .i64 ep, .slice cp cn cc, .slice dp dn dc] ∧ Hid (∀ j, j < k → dnO ix D j = true)) (fun vi _ => dn - (intOf vi).toNat)
  case atStart => exact ⟨0, Nat.zero_le _, rfl, hb, hTb, fun j hj => absurd hj (Nat.not_lt_zero _)⟩
  case round =>
    clear hb hTb
    obtain ⟨k, hk, rfl, HB, hTb, HA⟩ := hrel
    by_cases hkn : k < dn
    · have hki : (k : Int) < (dn : Int) := by omega
      obtain ⟨bb, o, rfl, hc⟩ := (hD.below HB).dns (by omega)
      obtain ⟨x0, x1, x2⟩ := hc k hkn
      have HO : Hid (dnO ix D k = (dnR D k && (isRq (D.getD k .z0).c (D.getD k .z0).q && isVr ix (D.getD k .z0).v))) := rfl
      have HQ : Hid (dnR D k = ((k == 0) || decide ((D.getD (k - 1) .z0).c < (D.getD k .z0).c))) := rfl
      generalize D.getD k .z0 = x at *
      obtain ⟨xc, xq, xv⟩ := x
      dsimp only at *
      have hba := below_alloc' wr (.cells #[.int .i64 (Dn.mk xc xq xv).c, .int .i64 (Dn.mk xc xq xv).q, .int .i64 (Dn.mk xc xq xv).v] 82)
      have hX : At 82 (wr.alloc (.cells #[.int .i64 (Dn.mk xc xq xv).c, .int .i64 (Dn.mk xc xq xv).q, .int .i64 (Dn.mk xc xq xv).v] 82)) wr.heap.size #[.int .i64 (Dn.mk xc xq xv).c, .int .i64 (Dn.mk xc xq xv).q, .int .i64 (Dn.mk xc xq xv).v] := At.new _ _ _
      have HB3 := HB.trans (hba.mono HB.size)
      replace hTb := hTb.below hba
      have hc3 := (hD.below HB3).dns (by omega)
      obtain ⟨bb2, o2, eb, hc3⟩ := hc3
      cases eb
      dsimp only at *
      clear hc
      go_wp2_with fail
      generalize (wr.alloc (.cells #[.int .i64 (Dn.mk xc xq xv).c, .int .i64 (Dn.mk xc xq xv).q, .int .i64 (Dn.mk xc xq xv).v] 82)) = V3 at *
      generalize wr.heap.size = g4 at *
      clear hba x0 x1 x2
      have hkl : k < D.length := by omega
      have hS0 : Bl V3 V3.drew := (Below.refl _ _).drew
      by_cases hkz : k = 0
      · have hk0 : ((k : Int) == 0) = true := by rw [hkz]; rfl
        have hk00 : (k == 0) = true := by rw [hkz]; rfl
        have HRr : Hid (dnR D k = true) := by unfold Hid; rw [HQ.out, hk00, Bool.true_or]
        refine wp_region_det [0, 1, 2, 3, 4, 5, 6, 7, 8, 9, 10, 11, 12, 13, 14] (Bl V3) (Bl V3) (by kernel_rfl) hS0 ?_
        refine wpDet_take ?vW0 (Bl.stays V3) (fun _ h => h) (i := 0) rfl (by kernel_rfl) (by kernel_rfl) (by kernel_rfl) (by kernel_rfl) (fun _ _ _ h => h) (Gives.value (by rfl) ?yW0) ?rW0
        case yW0 => (intro w' hSw; (try dsimp only at hSw); go_simp; try with_reducible rfl)
        (try simp only [Act.put, List.getElem_toArray, List.getElem_cons_zero, List.getElem_cons_succ, List.setIfInBounds_toArray, List.set_cons_zero, List.set_cons_succ])
        refine wpDet_take (.bool true) (Bl.stays V3) (fun _ h => h) (i := 1) rfl (by kernel_rfl) (by kernel_rfl) (by kernel_rfl) (by kernel_rfl) (fun _ _ _ h => h) (Gives.value (by rfl) ?yW1) ?rW1
        case yW1 => (intro w' hSw; (try dsimp only at hSw); go_simp; first | done | rfl | exact congrArg Value.bool hk0 | omega)
        (try simp only [Act.put, List.getElem_toArray, List.getElem_cons_zero, List.getElem_cons_succ, List.setIfInBounds_toArray, List.set_cons_zero, List.set_cons_succ])
        refine wpDet_take ?vW2 (Bl.stays V3) (fun _ h => h) (i := 2) rfl (by kernel_rfl) (by kernel_rfl) (by kernel_rfl) (by kernel_rfl) (fun _ _ _ h => h) (Gives.value (by rfl) ?yW2) ?rW2
        case yW2 => (intro w' hSw; (try dsimp only at hSw); go_simp; try with_reducible rfl)
        (try simp only [Act.put, List.getElem_toArray, List.getElem_cons_zero, List.getElem_cons_succ, List.setIfInBounds_toArray, List.set_cons_zero, List.set_cons_succ])
        refine wpDet_take undef (Bl.stays V3) (fun _ h => h) (i := 3) rfl (by kernel_rfl) (by kernel_rfl) (by kernel_rfl) (by kernel_rfl) (fun _ _ _ h => h) (Gives.not (by rfl)) ?_
        (try simp only [Act.put, List.getElem_toArray, List.getElem_cons_zero, List.getElem_cons_succ, List.setIfInBounds_toArray, List.set_cons_zero, List.set_cons_succ])
        refine wpDet_take undef (Bl.stays V3) (fun _ h => h) (i := 4) rfl (by kernel_rfl) (by kernel_rfl) (by kernel_rfl) (by kernel_rfl) (fun _ _ _ h => h) (Gives.not (by rfl)) ?_
        (try simp only [Act.put, List.getElem_toArray, List.getElem_cons_zero, List.getElem_cons_succ, List.setIfInBounds_toArray, List.set_cons_zero, List.set_cons_succ])
        refine wpDet_take undef (Bl.stays V3) (fun _ h => h) (i := 5) rfl (by kernel_rfl) (by kernel_rfl) (by kernel_rfl) (by kernel_rfl) (fun _ _ _ h => h) (Gives.not (by rfl)) ?_
        (try simp only [Act.put, List.getElem_toArray, List.getElem_cons_zero, List.getElem_cons_succ, List.setIfInBounds_toArray, List.set_cons_zero, List.set_cons_succ])
        refine wpDet_take undef (Bl.stays V3) (fun _ h => h) (i := 6) rfl (by kernel_rfl) (by kernel_rfl) (by kernel_rfl) (by kernel_rfl) (fun _ _ _ h => h) (Gives.not (by rfl)) ?_
        (try simp only [Act.put, List.getElem_toArray, List.getElem_cons_zero, List.getElem_cons_succ, List.setIfInBounds_toArray, List.set_cons_zero, List.set_cons_succ])
        refine wpDet_take undef (Bl.stays V3) (fun _ h => h) (i := 7) rfl (by kernel_rfl) (by kernel_rfl) (by kernel_rfl) (by kernel_rfl) (fun _ _ _ h => h) (Gives.not (by rfl)) ?_
        (try simp only [Act.put, List.getElem_toArray, List.getElem_cons_zero, List.getElem_cons_succ, List.setIfInBounds_toArray, List.set_cons_zero, List.set_cons_succ])
        refine wpDet_take undef (Bl.stays V3) (fun _ h => h) (i := 8) rfl (by kernel_rfl) (by kernel_rfl) (by kernel_rfl) (by kernel_rfl) (fun _ _ _ h => h) (Gives.not (by rfl)) ?_
        (try simp only [Act.put, List.getElem_toArray, List.getElem_cons_zero, List.getElem_cons_succ, List.setIfInBounds_toArray, List.set_cons_zero, List.set_cons_succ])
        refine wpDet_take undef (Bl.stays V3) (fun _ h => h) (i := 9) rfl (by kernel_rfl) (by kernel_rfl) (by kernel_rfl) (by kernel_rfl) (fun _ _ _ h => h) (Gives.not (by rfl)) ?_
        (try simp only [Act.put, List.getElem_toArray, List.getElem_cons_zero, List.getElem_cons_succ, List.setIfInBounds_toArray, List.set_cons_zero, List.set_cons_succ])
        refine wpDet_take undef (Bl.stays V3) (fun _ h => h) (i := 10) rfl (by kernel_rfl) (by kernel_rfl) (by kernel_rfl) (by kernel_rfl) (fun _ _ _ h => h) (Gives.not (by rfl)) ?_
        (try simp only [Act.put, List.getElem_toArray, List.getElem_cons_zero, List.getElem_cons_succ, List.setIfInBounds_toArray, List.set_cons_zero, List.set_cons_succ])
        refine wpDet_take undef (Bl.stays V3) (fun _ h => h) (i := 11) rfl (by kernel_rfl) (by kernel_rfl) (by kernel_rfl) (by kernel_rfl) (fun _ _ _ h => h) (Gives.not (by rfl)) ?_
        (try simp only [Act.put, List.getElem_toArray, List.getElem_cons_zero, List.getElem_cons_succ, List.setIfInBounds_toArray, List.set_cons_zero, List.set_cons_succ])
        refine wpDet_take undef (Bl.stays V3) (fun _ h => h) (i := 12) rfl (by kernel_rfl) (by kernel_rfl) (by kernel_rfl) (by kernel_rfl) (fun _ _ _ h => h) (Gives.not (by rfl)) ?_
        (try simp only [Act.put, List.getElem_toArray, List.getElem_cons_zero, List.getElem_cons_succ, List.setIfInBounds_toArray, List.set_cons_zero, List.set_cons_succ])
        refine wpDet_take ?vW13 (Bl.stays V3) (fun _ h => h) (i := 13) rfl (by kernel_rfl) (by kernel_rfl) (by kernel_rfl) (by kernel_rfl) (fun _ _ _ h => h) (Gives.value (by rfl) ?yW13) ?rW13
        case yW13 => (intro w' hSw; (try dsimp only at hSw); go_simp; try with_reducible rfl)
        (try simp only [Act.put, List.getElem_toArray, List.getElem_cons_zero, List.getElem_cons_succ, List.setIfInBounds_toArray, List.set_cons_zero, List.set_cons_succ])
        refine wpDet_take ?vW14 (Bl.stays V3) (fun _ h => h) (i := 14) rfl (by kernel_rfl) (by kernel_rfl) (by kernel_rfl) (by kernel_rfl) (fun _ _ _ h => h) (Gives.value (by rfl) ?yW14) ?rW14
        case yW14 => (intro w' hSw; (try dsimp only at hSw); go_simp; try with_reducible rfl)
        (try simp only [Act.put, List.getElem_toArray, List.getElem_cons_zero, List.getElem_cons_succ, List.setIfInBounds_toArray, List.set_cons_zero, List.set_cons_succ])
        refine wpDet_done (by kernel_rfl) (fun W9 hV => ?_) _
        replace HB := HB3.trans ((Bl.out hV).mono HB3.size)
        replace hTb := hTb.below (Bl.out hV)
        replace hX := hX.below (Bl.out hV)
        clear hV HB3
        have cR := isRq_any xc xq W9
        obtain ⟨y0, y1, y2⟩ := don_box (x := ⟨xc, xq, xv⟩) hX
        have HP : Hid (∀ r1 r2 : Bool, isRq xc xq = r1 → isVr ix xv = r2 → dnO ix D k = (r1 && r2)) := fun r1 r2 h1 h2 => by rw [HO.out, HRr.out, h1, h2]; rfl
        generalize hrq : isRq xc xq = rq at cR
        cases rq with
        | false =>
          have hF : res = false := by rw [← HR.out]; exact areD_no hkl (HP.out false _ hrq rfl)
          subst hF
          clear HP HO HQ HR HRr
          go_wp2_with fail
          refine cR.mono ?_
          rintro e w10 ⟨rfl, hb10⟩
          replace HB := HB.trans (hb10.mono HB.size)
          clear cR y0 y1 y2
          go_wp2_with fail
          go_ret
          exact ⟨rfl, HB⟩
        | true =>
          go_wp2_with fail
          refine cR.mono ?_
          rintro e w10 ⟨rfl, hb10⟩
          replace HB := HB.trans (hb10.mono HB.size)
          replace hTb := hTb.below hb10
          replace hX := hX.below hb10
          clear cR y0 y1 y2 hb10
          have cV := isVr_any ix ep cp cn cc (some ⟨bb, o, none⟩) dn dc xv w10
          obtain ⟨y0, y1, y2⟩ := don_box (x := ⟨xc, xq, xv⟩) hX
          have z0 := hTb.cell 0
          have z1 := hTb.cell 1
          have z2 := hTb.cell 2
          have z3 := hTb.cell 3
          simp only [List.getElem?_toArray, List.getElem?_cons_zero, List.getElem?_cons_succ] at z0 z1 z2 z3
          generalize hvr : isVr ix xv = vr at cV
          cases vr with
          | false =>
            have hF : res = false := by rw [← HR.out]; exact areD_no hkl (HP.out true false hrq hvr)
            subst hF
            clear HP HO HQ HR HRr
            go_wp2_with fail
            refine cV.mono ?_
            rintro e w11 ⟨rfl, hb11⟩
            replace HB := HB.trans (hb11.mono HB.size)
            clear cV z0 z1 z2 z3 y0 y1 y2
            go_wp2_with fail
            go_ret
            exact ⟨rfl, HB⟩
          | true =>
            have hAN : Hid (∀ j, j < k + 1 → dnO ix D j = true) := fun j hj => by
              by_cases e : j = k
              · rw [e]; exact HP.out true true hrq hvr
              · exact HA.out j (by omega)
            clear HP HO HQ HRr HA
            go_wp2_with fail
            refine cV.mono ?_
            rintro e w11 ⟨rfl, hb11⟩
            replace HB := HB.trans (hb11.mono HB.size)
            replace hTb := hTb.below hb11
            clear cV z0 z1 z2 z3 y0 y1 y2
            go_wp2_with fail
            exact ⟨⟨k + 1, by omega, by go_num, HB, hTb, hAN⟩, by simp [intOf]; omega⟩
      · obtain ⟨j, rfl⟩ : ∃ j, k = j + 1 := ⟨k - 1, by omega⟩
        have hk0 : (((j + 1 : Nat) : Int) == 0) = false := by simp; omega
        have d0 := (hc3 j (by omega)).1
        have hj : (j : Int) < (dn : Int) := by omega
        have HRr : Hid (dnR D (j + 1) = decide ((D.getD j .z0).c < xc)) := by unfold Hid; rw [HQ.out]; simp
        generalize (D.getD j .z0).c = pc at *
        refine wp_region_det [0, 1, 2, 3, 4, 5, 6, 7, 8, 9, 10, 11, 12, 13, 14] (Bl V3) (Bl V3) (by kernel_rfl) hS0 ?_
        refine wpDet_take ?vX0 (Bl.stays V3) (fun _ h => h) (i := 0) rfl (by kernel_rfl) (by kernel_rfl) (by kernel_rfl) (by kernel_rfl) (fun _ _ _ h => h) (Gives.value (by rfl) ?yX0) ?rX0
        case yX0 => (intro w' hSw; (try dsimp only at hSw); go_simp; try with_reducible rfl)
        (try simp only [Act.put, List.getElem_toArray, List.getElem_cons_zero, List.getElem_cons_succ, List.setIfInBounds_toArray, List.set_cons_zero, List.set_cons_succ])
        refine wpDet_take (.bool false) (Bl.stays V3) (fun _ h => h) (i := 1) rfl (by kernel_rfl) (by kernel_rfl) (by kernel_rfl) (by kernel_rfl) (fun _ _ _ h => h) (Gives.value (by rfl) ?yX1) ?rX1
        case yX1 => (intro w' hSw; (try dsimp only at hSw); go_simp; first | done | rfl | exact congrArg Value.bool hk0 | omega)
        (try simp only [Act.put, List.getElem_toArray, List.getElem_cons_zero, List.getElem_cons_succ, List.setIfInBounds_toArray, List.set_cons_zero, List.set_cons_succ])
        refine wpDet_take ?vX2 (Bl.stays V3) (fun _ h => h) (i := 2) rfl (by kernel_rfl) (by kernel_rfl) (by kernel_rfl) (by kernel_rfl) (fun _ _ _ h => h) (Gives.value (by rfl) ?yX2) ?rX2
        case yX2 => (intro w' hSw; (try dsimp only at hSw); go_simp; try with_reducible rfl)
        (try simp only [Act.put, List.getElem_toArray, List.getElem_cons_zero, List.getElem_cons_succ, List.setIfInBounds_toArray, List.set_cons_zero, List.set_cons_succ])
        refine wpDet_take ?vX3 (Bl.stays V3) (fun _ h => h) (i := 3) rfl (by kernel_rfl) (by kernel_rfl) (by kernel_rfl) (by kernel_rfl) (fun _ _ _ h => h) (Gives.value (by rfl) ?yX3) ?rX3
        case yX3 => (intro w' hSw; (try dsimp only at hSw); go_simp; try with_reducible rfl)
        (try simp only [Act.put, List.getElem_toArray, List.getElem_cons_zero, List.getElem_cons_succ, List.setIfInBounds_toArray, List.set_cons_zero, List.set_cons_succ])
        refine wpDet_take ?vX4 (Bl.stays V3) (fun _ h => h) (i := 4) rfl (by kernel_rfl) (by kernel_rfl) (by kernel_rfl) (by kernel_rfl) (fun _ _ _ h => h) (Gives.value (by rfl) ?yX4) ?rX4
        case yX4 => (intro w' hSw; have t3 := At.cell (hTb.below (Bl.out hSw)) 3; simp only [List.getElem?_toArray, List.getElem?_cons_zero, List.getElem?_cons_succ] at t3; (try dsimp only at hSw); go_simp; try with_reducible rfl)
        (try simp only [Act.put, List.getElem_toArray, List.getElem_cons_zero, List.getElem_cons_succ, List.setIfInBounds_toArray, List.set_cons_zero, List.set_cons_succ])
        refine wpDet_take ?vX5 (Bl.stays V3) (fun _ h => h) (i := 5) rfl (by kernel_rfl) (by kernel_rfl) (by kernel_rfl) (by kernel_rfl) (fun _ _ _ h => h) (Gives.value (by rfl) ?yX5) ?rX5
        case yX5 => (intro w' hSw; (try dsimp only at hSw); go_simp; try with_reducible rfl)
        (try simp only [Act.put, List.getElem_toArray, List.getElem_cons_zero, List.getElem_cons_succ, List.setIfInBounds_toArray, List.set_cons_zero, List.set_cons_succ])
        refine wpDet_take (.int .i64 (j : Int)) (Bl.stays V3) (fun _ h => h) (i := 6) rfl (by kernel_rfl) (by kernel_rfl) (by kernel_rfl) (by kernel_rfl) (fun _ _ _ h => h) (Gives.value (by rfl) ?yX6) ?rX6
        case yX6 => (intro w' hSw; (try dsimp only at hSw); go_simp; rw [IntKind.wrap_i64]; omega)
        (try simp only [Act.put, List.getElem_toArray, List.getElem_cons_zero, List.getElem_cons_succ, List.setIfInBounds_toArray, List.set_cons_zero, List.set_cons_succ])
        refine wpDet_take ?vX7 (Bl.stays V3) (fun _ h => h) (i := 7) rfl (by kernel_rfl) (by kernel_rfl) (by kernel_rfl) (by kernel_rfl) (fun _ _ _ h => h) (Gives.value (by rfl) ?yX7) ?rX7
        case yX7 => (intro w' hSw; (try dsimp only at hSw); go_simp; try with_reducible rfl)
        (try simp only [Act.put, List.getElem_toArray, List.getElem_cons_zero, List.getElem_cons_succ, List.setIfInBounds_toArray, List.set_cons_zero, List.set_cons_succ])
        refine wpDet_take ?vX8 (Bl.stays V3) (fun _ h => h) (i := 8) rfl (by kernel_rfl) (by kernel_rfl) (by kernel_rfl) (by kernel_rfl) (fun _ _ _ h => h) (Gives.value (by rfl) ?yX8) ?rX8
        case yX8 => (intro w' hSw; (try dsimp only at hSw); go_simp; try with_reducible rfl)
        (try simp only [Act.put, List.getElem_toArray, List.getElem_cons_zero, List.getElem_cons_succ, List.setIfInBounds_toArray, List.set_cons_zero, List.set_cons_succ])
        refine wpDet_take ?vX9 (Bl.stays V3) (fun _ h => h) (i := 9) rfl (by kernel_rfl) (by kernel_rfl) (by kernel_rfl) (by kernel_rfl) (fun _ _ _ h => h) (Gives.value (by rfl) ?yX9) ?rX9
        case yX9 => (intro w' hSw; have p0 := cell_at (Bl.out hSw) d0; (try dsimp only at hSw); go_simp; try with_reducible rfl)
        (try simp only [Act.put, List.getElem_toArray, List.getElem_cons_zero, List.getElem_cons_succ, List.setIfInBounds_toArray, List.set_cons_zero, List.set_cons_succ])
        refine wpDet_take ?vX10 (Bl.stays V3) (fun _ h => h) (i := 10) rfl (by kernel_rfl) (by kernel_rfl) (by kernel_rfl) (by kernel_rfl) (fun _ _ _ h => h) (Gives.value (by rfl) ?yX10) ?rX10
        case yX10 => (intro w' hSw; (try dsimp only at hSw); go_simp; try with_reducible rfl)
        (try simp only [Act.put, List.getElem_toArray, List.getElem_cons_zero, List.getElem_cons_succ, List.setIfInBounds_toArray, List.set_cons_zero, List.set_cons_succ])
        refine wpDet_take ?vX11 (Bl.stays V3) (fun _ h => h) (i := 11) rfl (by kernel_rfl) (by kernel_rfl) (by kernel_rfl) (by kernel_rfl) (fun _ _ _ h => h) (Gives.value (by rfl) ?yX11) ?rX11
        case yX11 => (intro w' hSw; have b0 := At.cell (hX.below (Bl.out hSw)) 0; simp only [List.getElem?_toArray, List.getElem?_cons_zero, List.getElem?_cons_succ] at b0; (try dsimp only at hSw); go_simp; try with_reducible rfl)
        (try simp only [Act.put, List.getElem_toArray, List.getElem_cons_zero, List.getElem_cons_succ, List.setIfInBounds_toArray, List.set_cons_zero, List.set_cons_succ])
        refine wpDet_take (.bool (decide (pc < xc))) (Bl.stays V3) (fun _ h => h) (i := 12) rfl (by kernel_rfl) (by kernel_rfl) (by kernel_rfl) (by kernel_rfl) (fun _ _ _ h => h) (Gives.value (by rfl) ?yX12) ?rX12
        case yX12 => (intro w' hSw; (try dsimp only at hSw); go_simp; try rfl)
        (try simp only [Act.put, List.getElem_toArray, List.getElem_cons_zero, List.getElem_cons_succ, List.setIfInBounds_toArray, List.set_cons_zero, List.set_cons_succ])
        refine wpDet_take ?vX13 (Bl.stays V3) (fun _ h => h) (i := 13) rfl (by kernel_rfl) (by kernel_rfl) (by kernel_rfl) (by kernel_rfl) (fun _ _ _ h => h) (Gives.value (by rfl) ?yX13) ?rX13
        case yX13 => (intro w' hSw; (try dsimp only at hSw); go_simp; try with_reducible rfl)
        (try simp only [Act.put, List.getElem_toArray, List.getElem_cons_zero, List.getElem_cons_succ, List.setIfInBounds_toArray, List.set_cons_zero, List.set_cons_succ])
        refine wpDet_take ?vX14 (Bl.stays V3) (fun _ h => h) (i := 14) rfl (by kernel_rfl) (by kernel_rfl) (by kernel_rfl) (by kernel_rfl) (fun _ _ _ h => h) (Gives.value (by rfl) ?yX14) ?rX14
        case yX14 => (intro w' hSw; (try dsimp only at hSw); go_simp; try with_reducible rfl)
        (try simp only [Act.put, List.getElem_toArray, List.getElem_cons_zero, List.getElem_cons_succ, List.setIfInBounds_toArray, List.set_cons_zero, List.set_cons_succ])
        refine wpDet_done (by kernel_rfl) (fun W9 hV => ?_) _
        replace HB := HB3.trans ((Bl.out hV).mono HB3.size)
        replace hTb := hTb.below (Bl.out hV)
        replace hX := hX.below (Bl.out hV)
        clear hV HB3
        generalize decide (pc < xc) = rr at *
        cases rr with
        | false =>
          have hF : res = false := by rw [← HR.out]; exact areD_no hkl (by rw [HO.out, HRr.out]; rfl)
          subst hF
          clear HO HQ HR HRr
          go_wp2_with fail
          go_ret
          exact ⟨rfl, HB⟩
        | true =>
          have cR := isRq_any xc xq W9
          obtain ⟨y0, y1, y2⟩ := don_box (x := ⟨xc, xq, xv⟩) hX
          have HP : Hid (∀ r1 r2 : Bool, isRq xc xq = r1 → isVr ix xv = r2 → dnO ix D (j + 1) = (r1 && r2)) := fun r1 r2 h1 h2 => by rw [HO.out, HRr.out, h1, h2]; rfl
          generalize hrq : isRq xc xq = rq at cR
          cases rq with
          | false =>
            have hF : res = false := by rw [← HR.out]; exact areD_no hkl (HP.out false _ hrq rfl)
            subst hF
            clear HP HO HQ HR HRr
            go_wp2_with fail
            refine cR.mono ?_
            rintro e w10 ⟨rfl, hb10⟩
            replace HB := HB.trans (hb10.mono HB.size)
            clear cR y0 y1 y2
            go_wp2_with fail
            go_ret
            exact ⟨rfl, HB⟩
          | true =>
            go_wp2_with fail
            refine cR.mono ?_
            rintro e w10 ⟨rfl, hb10⟩
            replace HB := HB.trans (hb10.mono HB.size)
            replace hTb := hTb.below hb10
            replace hX := hX.below hb10
            clear cR y0 y1 y2 hb10
            have cV := isVr_any ix ep cp cn cc (some ⟨bb, o, none⟩) dn dc xv w10
            obtain ⟨y0, y1, y2⟩ := don_box (x := ⟨xc, xq, xv⟩) hX
            have z0 := hTb.cell 0
            have z1 := hTb.cell 1
            have z2 := hTb.cell 2
            have z3 := hTb.cell 3
            simp only [List.getElem?_toArray, List.getElem?_cons_zero, List.getElem?_cons_succ] at z0 z1 z2 z3
            generalize hvr : isVr ix xv = vr at cV
            cases vr with
            | false =>
              have hF : res = false := by rw [← HR.out]; exact areD_no hkl (HP.out true false hrq hvr)
              subst hF
              clear HP HO HQ HR HRr
              go_wp2_with fail
              refine cV.mono ?_
              rintro e w11 ⟨rfl, hb11⟩
              replace HB := HB.trans (hb11.mono HB.size)
              clear cV z0 z1 z2 z3 y0 y1 y2
              go_wp2_with fail
              go_ret
              exact ⟨rfl, HB⟩
            | true =>
              have hAN : Hid (∀ j2, j2 < j + 1 + 1 → dnO ix D j2 = true) := fun j2 hj2 => by
                by_cases e : j2 = j + 1
                · rw [e]; exact HP.out true true hrq hvr
                · exact HA.out j2 (by omega)
              clear HP HO HQ HRr HA
              go_wp2_with fail
              refine cV.mono ?_
              rintro e w11 ⟨rfl, hb11⟩
              replace HB := HB.trans (hb11.mono HB.size)
              replace hTb := hTb.below hb11
              clear cV z0 z1 z2 z3 y0 y1 y2
              go_wp2_with fail
              exact ⟨⟨j + 1 + 1, by omega, by go_num, HB, hTb, hAN⟩, by simp [intOf]; omega⟩
    · have hki : ¬ (k : Int) < (dn : Int) := by omega
      have z0 := hTb.cell 0
      have z3 := hTb.cell 3
      simp only [List.getElem?_toArray, List.getElem?_cons_zero, List.getElem?_cons_succ] at z0 z3
      by_cases h0 : 0 < dn
      · have h0i : (0 : Int) < (dn : Int) := by omega
        have hd : decide (0 < D.length) = true := decide_eq_true (by omega)
        have hF : res = true := by rw [← HR.out, areD_all fun j hj => HA.out j (by omega), hd, Bool.true_or]
        subst hF
        clear HR HA
        go_wp2_with fail
        go_ret
        exact ⟨rfl, HB⟩
      · have h0i : ¬ (0 : Int) < (dn : Int) := by omega
        have hd : decide (0 < D.length) = false := decide_eq_false (by omega)
        have hF : res = (ix == 0) := by rw [← HR.out, areD_all fun j hj => HA.out j (by omega), hd, Bool.false_or]
        subst hF
        clear HR HA
        go_wp2_with fail
        go_ret
        exact ⟨rfl, HB⟩

end Go.Proofs.YtnbgdkdnlfomeaaDoor.M
