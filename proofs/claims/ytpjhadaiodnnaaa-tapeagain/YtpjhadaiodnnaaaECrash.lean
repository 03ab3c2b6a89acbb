/-
  Own text: contracts of a file's crash and of the disk's fall.
-/
import Derived.Test.YtpjhadaiodnnaaaEFile
import Derived.Test.YtpjhadaiodnnaaaDet2
namespace Go.Proofs.Ytpjhadaiodnnaaa.M
open Go.ChangeShapes Go.WideShapes Go.ChangeAt Go.RowKit

theorem wp_nil {P : Program} {op : Oper} {a : Act} {w : World} {K : Act → World → Prop} {Q : Exit → Act → World → Prop} (x : Operand) (ho : op.op = .nilCheck x) (ad : Addr) (hx : a.eval x = .pointer (some ad)) (h : K (a.put op.dst (.pointer (some ad))) w) : op.wp P a w K Q := by
  unfold Oper.wp execOp
  simp [ho, hx]
  exact h

theorem wp_store_slice {P : Program} {op : Oper} {a : Act} {w : World} {K : Act → World → Prop} {Q : Exit → Act → World → Prop} (ty : TypeId) (x y : Operand) (ho : op.op = .store ty x y) (b o : Nat) (p : Option Addr) (n c : Nat) (u : Value)
    (hx : a.eval x = .pointer (some ⟨b, o, none⟩)) (hy : a.eval y = .slice p n c) (hsz : (P.info? ty).map (·.size) = some 1) (hc : w.cell? ⟨b, o, none⟩ = some u) (hf : w.frozen? ⟨b, o, none⟩ = false)
    (h : K (a.put op.dst undef) (w.setCell ⟨b, o, none⟩ (.slice p n c))) : op.wp P a w K Q := by
  have hrun : (storeVar ty ⟨b, o, none⟩ (.slice p n c)).run P w = .ok () (w.setCell ⟨b, o, none⟩ (.slice p n c)) := by
    have := run_storeCells_cells (P := P) b o [.slice p n c] 0 w (fun j hj => by
        match j, hj with
        | 0, _ => rw [Nat.add_zero, hc]; rfl) (fun j hj => by
        match j, hj with
        | 0, _ => exact hf) (fun u hu => by rw [List.mem_singleton.1 hu]; rfl)
    cases hq : P.info? ty with
    | none => simp [hq] at hsz
    | some i =>
      have hs : i.size = 1 := by simpa [hq] using hsz
      simp only [Nat.add_zero] at this
      simp [storeVar, sizeOf, typeInfo, hq, Value.cells, hs, this, World.setCells]
  unfold Oper.wp execOp
  simp only [ho, hx, hy, Instr.storeAt, Instr.sureAddr, Sem.run_bind, Sem.run_pure, Result.andThen_ok, hrun]
  exact h

theorem sizeSl : (Try.prog.info? 22).map (·.size) = some 1 := by kernel_rfl

set_option maxRecDepth 20000 in
theorem sync_dc (w : World) (g : Nat) (d : Dk) (h : DC w g d) (i : Nat) (hi : i < 8) :
    Calls Try.prog 81 #[.pointer (some ⟨g, 2 + i * 3, none⟩)] w fun e w' => e = .returned (.tuple #[]) ∧ Ch (fun k => k = g) w w' ∧ DC w' g { d with fl := upF d.fl i ⟨(d.fl i).tp, (d.fl i).tn, (d.fl i).tc, (d.fl i).tp, (d.fl i).tn, (d.fl i).tc, false⟩ } := by
  have hct := h.told hi
  have hcl := h.lasts hi
  have hcc := h.cl hi
  have hf0 := h.free (2 + i * 3 + 1)
  have hf2 := h.free (2 + i * 3 + 2)
  have hd := (h.setLasts hi (d.fl i).tp (d.fl i).tn (d.fl i).tc).setCl hi false
  dsimp only at hd
  rw [upF_same, upF_up] at hd
  dsimp only at hd
  have hcc2 : (w.setCell ⟨g, 2 + i * 3 + 1, none⟩ (.slice (d.fl i).tp (d.fl i).tn (d.fl i).tc)).cell? ⟨g, 2 + i * 3 + 2, none⟩ = some (.bool (d.fl i).cl) := by
    rw [World.cell?_setCell_other (h := fun e => absurd (congrArg Addr.off e) (by simp))]; exact hcc
  clear h hcc
  generalize d.fl i = fl at *
  obtain ⟨tp, tn, tc, lp, ln, lc, cl⟩ := fl
  dsimp only at *
  go_enter Try.func81, Try.ntmps81
  go_wp2_with fail
  go_end0
  exact ⟨rfl, Ch.cells2 _ _ _ _ _ _, hd⟩

set_option maxRecDepth 20000 in
theorem crash_low (w : World) (g : Nat) (d : Dk) (h : DC w g d) (i : Nat) (hi : i < 8) (k : Int) (hk : k < 0) :
    Calls Try.prog 88 #[.pointer (some ⟨g, 2 + i * 3, none⟩), .int .i64 k] w fun e w' => e = .returned (.tuple #[]) ∧ Ch (fun k => k = g) w w' ∧ DC w' g { d with fl := upF d.fl i ⟨(d.fl i).lp, (d.fl i).ln, (d.fl i).lc, (d.fl i).lp, (d.fl i).ln, (d.fl i).lc, false⟩ } := by
  have hct := h.told hi
  have hcl := h.lasts hi
  have hcc := h.cl hi
  have hf0 := h.free (2 + i * 3)
  have hd := h.setTold hi (d.fl i).lp (d.fl i).ln (d.fl i).lc
  have hS := sync_dc _ g _ hd i hi
  dsimp only at hS
  rw [upF_same, upF_up] at hS
  dsimp only at hS
  clear h hd
  generalize d.fl i = fl at *
  obtain ⟨tp, tn, tc, lp, ln, lc, cl⟩ := fl
  dsimp only at *
  have hc0 := Ch.setCell w ⟨g, 2 + i * 3, none⟩ (.slice lp ln lc)
  cases cl with
  | true =>
    go_enter Try.func88, Try.ntmps88
    go_wp2_with fail
    refine hS.mono ?_
    rintro e w1 ⟨rfl, h1, h2⟩
    go_wp2_with fail
    go_end0
    exact ⟨rfl, hc0.trans h1, h2⟩
  | false =>
    go_enter Try.func88, Try.ntmps88
    go_wp2_with fail
    refine hS.mono ?_
    rintro e w1 ⟨rfl, h1, h2⟩
    go_wp2_with fail
    go_end0
    exact ⟨rfl, hc0.trans h1, h2⟩

theorem wr_eq {x : Int} {n : Nat} (h : x = (n : Int)) (hn : n ≤ 1099511627776) : IntKind.i64.wrap x = (n : Int) := by
  subst h
  rw [IntKind.wrap_i64]
  omega

def CS (w : World) (g i : Nat) (tp : Option Addr) (tn tc : Nat) (d : Dk) (V : World) : Prop := V.cell? ⟨g, 2 + i * 3, none⟩ = some (.slice tp tn tc) ∧ V.frozen? ⟨g, 2 + i * 3, none⟩ = false ∧ DC V g d ∧ Below w.heap.size w V

theorem CS.stays (w : World) (g i : Nat) (tp : Option Addr) (tn tc : Nat) (d : Dk) : Stays (CS w g i tp tn tc d) := fun V V' hV hb =>
  have hlt := hV.2.2.1.lt
  ⟨by rw [hb.cell (p := ⟨g, 2 + i * 3, none⟩) hlt]; exact hV.1, by rw [hb.frozen (p := ⟨g, 2 + i * 3, none⟩) hlt]; exact hV.2.1, hV.2.2.1.below hb hlt, hV.2.2.2.trans (hb.mono hV.2.2.2.size)⟩

set_option linter.unusedSimpArgs false in
set_option maxRecDepth 20000 in
set_option maxHeartbeats 1000000 in
theorem crash_high (w : World) (g : Nat) (d : Dk) (h : DC w g d) (i : Nat) (hi : i < 8) (k : Nat) (s : Nat) (hs : s = if (d.fl i).cl then 0 else (d.fl i).ln) (hsn : s ≤ (d.fl i).tn) (hnc : (d.fl i).tn ≤ (d.fl i).tc) (hn : (d.fl i).tn ≤ 1099511627776) (hnil : (d.fl i).tp = none → (d.fl i).tc = 0) :
    Calls Try.prog 88 #[.pointer (some ⟨g, 2 + i * 3, none⟩), .int .i64 k] w fun e w' => e = .returned (.tuple #[]) ∧ Ch (fun k => k = g) w w' ∧ DC w' g { d with fl := upF d.fl i ⟨(d.fl i).tp, s + min k ((d.fl i).tn - s), (d.fl i).tc, (d.fl i).tp, s + min k ((d.fl i).tn - s), (d.fl i).tc, false⟩ } := by
  have hct := h.told hi
  have hcl := h.lasts hi
  have hcc := h.cl hi
  have hf0 := h.free (2 + i * 3)
  generalize hfl : d.fl i = fl at *
  obtain ⟨tp, tn, tc, lp, ln, lc, cl⟩ := fl
  dsimp only at *
  obtain ⟨D, hD⟩ : ∃ D, D = tn - s := ⟨_, rfl⟩
  obtain ⟨mm, hm⟩ : ∃ mm, mm = min k D := ⟨_, rfl⟩
  obtain ⟨z, hz0⟩ : ∃ z, z = s + mm := ⟨_, rfl⟩
  have hz : z = s + min k (tn - s) := by rw [hz0, hm, hD]
  rw [← hz]
  have HD : Hid (D = tn - s) := hD
  have HM : Hid (mm = min k D) := hm
  have HZ : Hid (z = s + mm) := hz0
  have hDb : D ≤ 1099511627776 := by omega
  have hmb : mm ≤ D := by omega
  have hzc : z ≤ tc := by omega
  have hzb : z ≤ 1099511627776 := by omega
  clear hz hz0 hm hD
  have hS5 : CS w g i tp tn tc d w.drew := CS.stays w g i tp tn tc d w _ ⟨hct, hf0, h, Below.refl _ _⟩ (Below.refl _ _).drew
  cases cl with
  | true =>
    obtain rfl : 0 = s := hs.symm
    clear hs
    obtain ⟨cl0, hcl0⟩ : ∃ c, c = true := ⟨_, rfl⟩
    have hU : ∀ V, DC V g d → DC (V.setCell ⟨g, 2 + i * 3, none⟩ (.slice tp z tc)) g { d with fl := upF d.fl i ⟨tp, z, tc, lp, ln, lc, cl0⟩ } := by
      intro V hV
      have := hV.setTold hi tp z tc
      rw [hfl, ← hcl0] at this
      exact this
    clear hcl0
    go_enter Try.func88, Try.ntmps88
    go_wp2_with fail
    clear hct hcl hcc hf0
    refine wp_region_det [0, 1, 2, 3, 4, 5, 6, 7, 8, 9, 10, 11, 12, 13, 14, 15, 16, 18] (CS w g i tp tn tc d) (CS w g i tp tn tc d) (by kernel_rfl) hS5 ?_
    refine wpDet_take ?vA0 (CS.stays w g i tp tn tc d) (fun _ h => h) (i := 0) rfl (by kernel_rfl) (by kernel_rfl) (by kernel_rfl) (by kernel_rfl) (fun _ _ _ h => h) (Gives.value (by rfl) ?yA0) ?rA0
    case yA0 => (intro w' hSw; (try dsimp only at hSw); go_simp; try with_reducible rfl)
    (try simp only [Act.put, List.getElem_toArray, List.getElem_cons_zero, List.getElem_cons_succ, List.setIfInBounds_toArray, List.set_cons_zero, List.set_cons_succ])
    refine wpDet_take ?vA1 (CS.stays w g i tp tn tc d) (fun _ h => h) (i := 1) rfl (by kernel_rfl) (by kernel_rfl) (by kernel_rfl) (by kernel_rfl) (fun _ _ _ h => h) (Gives.value (by rfl) ?yA1) ?rA1
    case yA1 => (intro w' hSw; (try dsimp only at hSw); go_simp; try with_reducible rfl)
    (try simp only [Act.put, List.getElem_toArray, List.getElem_cons_zero, List.getElem_cons_succ, List.setIfInBounds_toArray, List.set_cons_zero, List.set_cons_succ])
    refine wpDet_take ?vA2 (CS.stays w g i tp tn tc d) (fun _ h => h) (i := 2) rfl (by kernel_rfl) (by kernel_rfl) (by kernel_rfl) (by kernel_rfl) (fun _ _ _ h => h) (Gives.value (by rfl) ?yA2) ?rA2
    case yA2 => (intro w' hSw; (try dsimp only at hSw); go_simp; try with_reducible rfl)
    (try simp only [Act.put, List.getElem_toArray, List.getElem_cons_zero, List.getElem_cons_succ, List.setIfInBounds_toArray, List.set_cons_zero, List.set_cons_succ])
    refine wpDet_take ?vA3 (CS.stays w g i tp tn tc d) (fun _ h => h) (i := 3) rfl (by kernel_rfl) (by kernel_rfl) (by kernel_rfl) (by kernel_rfl) (fun _ _ _ h => h) (Gives.value (by rfl) ?yA3) ?rA3
    case yA3 => (intro w' hSw; (try dsimp only at hSw); go_simp; try with_reducible rfl)
    (try simp only [Act.put, List.getElem_toArray, List.getElem_cons_zero, List.getElem_cons_succ, List.setIfInBounds_toArray, List.set_cons_zero, List.set_cons_succ])
    refine wpDet_take ?vA4 (CS.stays w g i tp tn tc d) (fun _ h => h) (i := 4) rfl (by kernel_rfl) (by kernel_rfl) (by kernel_rfl) (by kernel_rfl) (fun _ _ _ h => h) (Gives.value (by rfl) ?yA4) ?rA4
    case yA4 => (intro w' hSw; have hq0 := hSw.1; (try dsimp only at hSw); go_simp; try with_reducible rfl)
    (try simp only [Act.put, List.getElem_toArray, List.getElem_cons_zero, List.getElem_cons_succ, List.setIfInBounds_toArray, List.set_cons_zero, List.set_cons_succ])
    refine wpDet_take ?vA5 (CS.stays w g i tp tn tc d) (fun _ h => h) (i := 5) rfl (by kernel_rfl) (by kernel_rfl) (by kernel_rfl) (by kernel_rfl) (fun _ _ _ h => h) (Gives.value (by rfl) ?yA5) ?rA5
    case yA5 => (intro w' hSw; (try dsimp only at hSw); go_simp; try with_reducible rfl)
    (try simp only [Act.put, List.getElem_toArray, List.getElem_cons_zero, List.getElem_cons_succ, List.setIfInBounds_toArray, List.set_cons_zero, List.set_cons_succ])
    refine wpDet_take ?vA6 (CS.stays w g i tp tn tc d) (fun _ h => h) (i := 6) rfl (by kernel_rfl) (by kernel_rfl) (by kernel_rfl) (by kernel_rfl) (fun _ _ _ h => h) (Gives.value (by rfl) ?yA6) ?rA6
    case yA6 => (intro w' hSw; (try dsimp only at hSw); go_simp; try with_reducible rfl)
    (try simp only [Act.put, List.getElem_toArray, List.getElem_cons_zero, List.getElem_cons_succ, List.setIfInBounds_toArray, List.set_cons_zero, List.set_cons_succ])
    refine wpDet_take ?vA7 (CS.stays w g i tp tn tc d) (fun _ h => h) (i := 7) rfl (by kernel_rfl) (by kernel_rfl) (by kernel_rfl) (by kernel_rfl) (fun _ _ _ h => h) (Gives.value (by rfl) ?yA7) ?rA7
    case yA7 => (intro w' hSw; (try dsimp only at hSw); go_simp; try with_reducible rfl)
    (try simp only [Act.put, List.getElem_toArray, List.getElem_cons_zero, List.getElem_cons_succ, List.setIfInBounds_toArray, List.set_cons_zero, List.set_cons_succ])
    refine wpDet_take ?vA8 (CS.stays w g i tp tn tc d) (fun _ h => h) (i := 8) rfl (by kernel_rfl) (by kernel_rfl) (by kernel_rfl) (by kernel_rfl) (fun _ _ _ h => h) (Gives.value (by rfl) ?yA8) ?rA8
    case yA8 => (intro w' hSw; (try dsimp only at hSw); go_simp; try with_reducible rfl)
    (try simp only [Act.put, List.getElem_toArray, List.getElem_cons_zero, List.getElem_cons_succ, List.setIfInBounds_toArray, List.set_cons_zero, List.set_cons_succ])
    refine wpDet_take ?vA9 (CS.stays w g i tp tn tc d) (fun _ h => h) (i := 9) rfl (by kernel_rfl) (by kernel_rfl) (by kernel_rfl) (by kernel_rfl) (fun _ _ _ h => h) (Gives.value (by rfl) ?yA9) ?rA9
    case yA9 => (intro w' hSw; (try dsimp only at hSw); go_simp; try with_reducible rfl)
    (try simp only [Act.put, List.getElem_toArray, List.getElem_cons_zero, List.getElem_cons_succ, List.setIfInBounds_toArray, List.set_cons_zero, List.set_cons_succ])
    refine wpDet_take ?vA10 (CS.stays w g i tp tn tc d) (fun _ h => h) (i := 10) rfl (by kernel_rfl) (by kernel_rfl) (by kernel_rfl) (by kernel_rfl) (fun _ _ _ h => h) (Gives.value (by rfl) ?yA10) ?rA10
    case yA10 => (intro w' hSw; have hq0 := hSw.1; (try dsimp only at hSw); go_simp; try with_reducible rfl)
    (try simp only [Act.put, List.getElem_toArray, List.getElem_cons_zero, List.getElem_cons_succ, List.setIfInBounds_toArray, List.set_cons_zero, List.set_cons_succ])
    refine wpDet_take ?vA11 (CS.stays w g i tp tn tc d) (fun _ h => h) (i := 11) rfl (by kernel_rfl) (by kernel_rfl) (by kernel_rfl) (by kernel_rfl) (fun _ _ _ h => h) (Gives.value (by rfl) ?yA11) ?rA11
    case yA11 => (intro w' hSw; (try dsimp only at hSw); go_simp; try with_reducible rfl)
    (try simp only [Act.put, List.getElem_toArray, List.getElem_cons_zero, List.getElem_cons_succ, List.setIfInBounds_toArray, List.set_cons_zero, List.set_cons_succ])
    refine wpDet_take ?vA12 (CS.stays w g i tp tn tc d) (fun _ h => h) (i := 12) rfl (by kernel_rfl) (by kernel_rfl) (by kernel_rfl) (by kernel_rfl) (fun _ _ _ h => h) (Gives.value (by rfl) ?yA12) ?rA12
    case yA12 => (intro w' hSw; (try dsimp only at hSw); go_simp; try with_reducible rfl)
    (try simp only [Act.put, List.getElem_toArray, List.getElem_cons_zero, List.getElem_cons_succ, List.setIfInBounds_toArray, List.set_cons_zero, List.set_cons_succ])
    refine wpDet_take (.int .i64 (D : Int)) (CS.stays w g i tp tn tc d) (fun _ h => h) (i := 13) rfl (by kernel_rfl) (by kernel_rfl) (by kernel_rfl) (by kernel_rfl) (fun _ _ _ h => h) (Gives.value (by rfl) ?yA13) ?rA13
    case yA13 => (intro w' hSw; (try dsimp only at hSw); go_simp; exact wr_eq (by have := HD.out; omega) (by omega))
    (try simp only [Act.put, List.getElem_toArray, List.getElem_cons_zero, List.getElem_cons_succ, List.setIfInBounds_toArray, List.set_cons_zero, List.set_cons_succ])
    refine wpDet_take (.int .i64 (mm : Int)) (CS.stays w g i tp tn tc d) (fun _ h => h) (i := 14) rfl (by kernel_rfl) (by kernel_rfl) (by kernel_rfl) (by kernel_rfl) (fun _ _ _ h => h) (Gives.value (by rfl) ?yA14) ?rA14
    case yA14 => (intro w' hSw; (try dsimp only at hSw); go_simp; (have h1 := HM.out; split <;> omega))
    (try simp only [Act.put, List.getElem_toArray, List.getElem_cons_zero, List.getElem_cons_succ, List.setIfInBounds_toArray, List.set_cons_zero, List.set_cons_succ])
    refine wpDet_take (.int .i64 (z : Int)) (CS.stays w g i tp tn tc d) (fun _ h => h) (i := 15) rfl (by kernel_rfl) (by kernel_rfl) (by kernel_rfl) (by kernel_rfl) (fun _ _ _ h => h) (Gives.value (by rfl) ?yA15) ?rA15
    case yA15 => (intro w' hSw; (try dsimp only at hSw); go_simp; exact wr_eq (by have := HZ.out; omega) (by omega))
    (try simp only [Act.put, List.getElem_toArray, List.getElem_cons_zero, List.getElem_cons_succ, List.setIfInBounds_toArray, List.set_cons_zero, List.set_cons_succ])
    refine wpDet_take (.slice tp z tc) (CS.stays w g i tp tn tc d) (fun _ h => h) (i := 16) rfl (by kernel_rfl) (by kernel_rfl) (by kernel_rfl) (by kernel_rfl) (fun _ _ _ h => h) (Gives.value (by rfl) ?yA16) ?rA16
    case yA16 => (intro w' hSw; (try dsimp only at hSw); go_simp; try (intro hh; exfalso; omega))
    (try simp only [Act.put, List.getElem_toArray, List.getElem_cons_zero, List.getElem_cons_succ, List.setIfInBounds_toArray, List.set_cons_zero, List.set_cons_succ])
    refine wpDet_ready (rs := [17]) (by kernel_rfl) (by simp) (AllDet.cons rfl (fun V hV K hK => ?_) AllDet.nil)
    rw [if_pos (by rfl)]
    refine wp_nil _ rfl _ rfl ?_
    refine hK.out (CS w g i tp tn tc d) _ _ (CS.stays w g i tp tn tc d) (fun _ _ h => h) hV ?_
    clear hK K hV
    (try simp only [Act.put, List.getElem_toArray, List.getElem_cons_zero, List.getElem_cons_succ, List.setIfInBounds_toArray, List.set_cons_zero, List.set_cons_succ])
    refine wpDet_take ?vA18 (CS.stays w g i tp tn tc d) (fun _ h => h) (i := 18) rfl (by kernel_rfl) (by kernel_rfl) (by kernel_rfl) (by kernel_rfl) (fun _ _ _ h => h) (Gives.value (by rfl) ?yA18) ?rA18
    case yA18 => (intro w' hSw; (try dsimp only at hSw); go_simp; try with_reducible rfl)
    (try simp only [Act.put, List.getElem_toArray, List.getElem_cons_zero, List.getElem_cons_succ, List.setIfInBounds_toArray, List.set_cons_zero, List.set_cons_succ])
    refine wpDet_ready (rs := [19]) (by kernel_rfl) (by simp) (AllDet.cons rfl (fun V hV K hK => ?_) AllDet.nil)
    rw [if_pos (by rfl)]
    refine wp_store_slice 22 _ _ rfl g (2 + i * 3) tp z tc _ rfl rfl sizeSl hV.1 hV.2.1 ?_
    refine hK.out (fun V => Ch (fun k => k = g) w V ∧ DC V g { d with fl := upF d.fl i ⟨tp, z, tc, lp, ln, lc, cl0⟩ }) _ _ (fun _ _ h hb => ⟨h.1.trans (Ch.of_below hb _), h.2.below hb h.2.lt⟩) (no_lean (by kernel_rfl)) ⟨(Ch.of_below hV.2.2.2 _).trans (Ch.setCell V ⟨g, 2 + i * 3, none⟩ _), hU V hV.2.2.1⟩ ?_
    clear hK K hV
    (try simp only [Act.put, List.getElem_toArray, List.getElem_cons_zero, List.getElem_cons_succ, List.setIfInBounds_toArray, List.set_cons_zero, List.set_cons_succ])
    refine wpDet_done (by kernel_rfl) (fun w8 hV => ?_) _
    have hS := sync_dc _ g _ hV.2 i hi
    dsimp only at hS
    rw [upF_same, upF_up] at hS
    dsimp only at hS
    go_wp2_with fail
    refine hS.mono ?_
    rintro e w9 ⟨rfl, h1, h2⟩
    go_wp2_with fail
    go_end0
    exact ⟨rfl, hV.1.trans h1, h2⟩
  | false =>
    obtain rfl : ln = s := hs.symm
    clear hs
    obtain ⟨cl0, hcl0⟩ : ∃ c, c = false := ⟨_, rfl⟩
    have hU : ∀ V, DC V g d → DC (V.setCell ⟨g, 2 + i * 3, none⟩ (.slice tp z tc)) g { d with fl := upF d.fl i ⟨tp, z, tc, lp, ln, lc, cl0⟩ } := by
      intro V hV
      have := hV.setTold hi tp z tc
      rw [hfl, ← hcl0] at this
      exact this
    clear hcl0
    go_enter Try.func88, Try.ntmps88
    go_wp2_with fail
    clear hct hcl hcc hf0
    refine wp_region_det [0, 1, 2, 3, 4, 5, 6, 7, 8, 9, 10, 11, 12, 13, 14, 15, 16, 18] (CS w g i tp tn tc d) (CS w g i tp tn tc d) (by kernel_rfl) hS5 ?_
    refine wpDet_take ?vB0 (CS.stays w g i tp tn tc d) (fun _ h => h) (i := 0) rfl (by kernel_rfl) (by kernel_rfl) (by kernel_rfl) (by kernel_rfl) (fun _ _ _ h => h) (Gives.value (by rfl) ?yB0) ?rB0
    case yB0 => (intro w' hSw; (try dsimp only at hSw); go_simp; try with_reducible rfl)
    (try simp only [Act.put, List.getElem_toArray, List.getElem_cons_zero, List.getElem_cons_succ, List.setIfInBounds_toArray, List.set_cons_zero, List.set_cons_succ])
    refine wpDet_take ?vB1 (CS.stays w g i tp tn tc d) (fun _ h => h) (i := 1) rfl (by kernel_rfl) (by kernel_rfl) (by kernel_rfl) (by kernel_rfl) (fun _ _ _ h => h) (Gives.value (by rfl) ?yB1) ?rB1
    case yB1 => (intro w' hSw; (try dsimp only at hSw); go_simp; try with_reducible rfl)
    (try simp only [Act.put, List.getElem_toArray, List.getElem_cons_zero, List.getElem_cons_succ, List.setIfInBounds_toArray, List.set_cons_zero, List.set_cons_succ])
    refine wpDet_take ?vB2 (CS.stays w g i tp tn tc d) (fun _ h => h) (i := 2) rfl (by kernel_rfl) (by kernel_rfl) (by kernel_rfl) (by kernel_rfl) (fun _ _ _ h => h) (Gives.value (by rfl) ?yB2) ?rB2
    case yB2 => (intro w' hSw; (try dsimp only at hSw); go_simp; try with_reducible rfl)
    (try simp only [Act.put, List.getElem_toArray, List.getElem_cons_zero, List.getElem_cons_succ, List.setIfInBounds_toArray, List.set_cons_zero, List.set_cons_succ])
    refine wpDet_take ?vB3 (CS.stays w g i tp tn tc d) (fun _ h => h) (i := 3) rfl (by kernel_rfl) (by kernel_rfl) (by kernel_rfl) (by kernel_rfl) (fun _ _ _ h => h) (Gives.value (by rfl) ?yB3) ?rB3
    case yB3 => (intro w' hSw; (try dsimp only at hSw); go_simp; try with_reducible rfl)
    (try simp only [Act.put, List.getElem_toArray, List.getElem_cons_zero, List.getElem_cons_succ, List.setIfInBounds_toArray, List.set_cons_zero, List.set_cons_succ])
    refine wpDet_take ?vB4 (CS.stays w g i tp tn tc d) (fun _ h => h) (i := 4) rfl (by kernel_rfl) (by kernel_rfl) (by kernel_rfl) (by kernel_rfl) (fun _ _ _ h => h) (Gives.value (by rfl) ?yB4) ?rB4
    case yB4 => (intro w' hSw; have hq0 := hSw.1; (try dsimp only at hSw); go_simp; try with_reducible rfl)
    (try simp only [Act.put, List.getElem_toArray, List.getElem_cons_zero, List.getElem_cons_succ, List.setIfInBounds_toArray, List.set_cons_zero, List.set_cons_succ])
    refine wpDet_take ?vB5 (CS.stays w g i tp tn tc d) (fun _ h => h) (i := 5) rfl (by kernel_rfl) (by kernel_rfl) (by kernel_rfl) (by kernel_rfl) (fun _ _ _ h => h) (Gives.value (by rfl) ?yB5) ?rB5
    case yB5 => (intro w' hSw; (try dsimp only at hSw); go_simp; try with_reducible rfl)
    (try simp only [Act.put, List.getElem_toArray, List.getElem_cons_zero, List.getElem_cons_succ, List.setIfInBounds_toArray, List.set_cons_zero, List.set_cons_succ])
    refine wpDet_take ?vB6 (CS.stays w g i tp tn tc d) (fun _ h => h) (i := 6) rfl (by kernel_rfl) (by kernel_rfl) (by kernel_rfl) (by kernel_rfl) (fun _ _ _ h => h) (Gives.value (by rfl) ?yB6) ?rB6
    case yB6 => (intro w' hSw; (try dsimp only at hSw); go_simp; try with_reducible rfl)
    (try simp only [Act.put, List.getElem_toArray, List.getElem_cons_zero, List.getElem_cons_succ, List.setIfInBounds_toArray, List.set_cons_zero, List.set_cons_succ])
    refine wpDet_take ?vB7 (CS.stays w g i tp tn tc d) (fun _ h => h) (i := 7) rfl (by kernel_rfl) (by kernel_rfl) (by kernel_rfl) (by kernel_rfl) (fun _ _ _ h => h) (Gives.value (by rfl) ?yB7) ?rB7
    case yB7 => (intro w' hSw; (try dsimp only at hSw); go_simp; try with_reducible rfl)
    (try simp only [Act.put, List.getElem_toArray, List.getElem_cons_zero, List.getElem_cons_succ, List.setIfInBounds_toArray, List.set_cons_zero, List.set_cons_succ])
    refine wpDet_take ?vB8 (CS.stays w g i tp tn tc d) (fun _ h => h) (i := 8) rfl (by kernel_rfl) (by kernel_rfl) (by kernel_rfl) (by kernel_rfl) (fun _ _ _ h => h) (Gives.value (by rfl) ?yB8) ?rB8
    case yB8 => (intro w' hSw; (try dsimp only at hSw); go_simp; try with_reducible rfl)
    (try simp only [Act.put, List.getElem_toArray, List.getElem_cons_zero, List.getElem_cons_succ, List.setIfInBounds_toArray, List.set_cons_zero, List.set_cons_succ])
    refine wpDet_take ?vB9 (CS.stays w g i tp tn tc d) (fun _ h => h) (i := 9) rfl (by kernel_rfl) (by kernel_rfl) (by kernel_rfl) (by kernel_rfl) (fun _ _ _ h => h) (Gives.value (by rfl) ?yB9) ?rB9
    case yB9 => (intro w' hSw; (try dsimp only at hSw); go_simp; try with_reducible rfl)
    (try simp only [Act.put, List.getElem_toArray, List.getElem_cons_zero, List.getElem_cons_succ, List.setIfInBounds_toArray, List.set_cons_zero, List.set_cons_succ])
    refine wpDet_take ?vB10 (CS.stays w g i tp tn tc d) (fun _ h => h) (i := 10) rfl (by kernel_rfl) (by kernel_rfl) (by kernel_rfl) (by kernel_rfl) (fun _ _ _ h => h) (Gives.value (by rfl) ?yB10) ?rB10
    case yB10 => (intro w' hSw; have hq0 := hSw.1; (try dsimp only at hSw); go_simp; try with_reducible rfl)
    (try simp only [Act.put, List.getElem_toArray, List.getElem_cons_zero, List.getElem_cons_succ, List.setIfInBounds_toArray, List.set_cons_zero, List.set_cons_succ])
    refine wpDet_take ?vB11 (CS.stays w g i tp tn tc d) (fun _ h => h) (i := 11) rfl (by kernel_rfl) (by kernel_rfl) (by kernel_rfl) (by kernel_rfl) (fun _ _ _ h => h) (Gives.value (by rfl) ?yB11) ?rB11
    case yB11 => (intro w' hSw; (try dsimp only at hSw); go_simp; try with_reducible rfl)
    (try simp only [Act.put, List.getElem_toArray, List.getElem_cons_zero, List.getElem_cons_succ, List.setIfInBounds_toArray, List.set_cons_zero, List.set_cons_succ])
    refine wpDet_take ?vB12 (CS.stays w g i tp tn tc d) (fun _ h => h) (i := 12) rfl (by kernel_rfl) (by kernel_rfl) (by kernel_rfl) (by kernel_rfl) (fun _ _ _ h => h) (Gives.value (by rfl) ?yB12) ?rB12
    case yB12 => (intro w' hSw; (try dsimp only at hSw); go_simp; try with_reducible rfl)
    (try simp only [Act.put, List.getElem_toArray, List.getElem_cons_zero, List.getElem_cons_succ, List.setIfInBounds_toArray, List.set_cons_zero, List.set_cons_succ])
    refine wpDet_take (.int .i64 (D : Int)) (CS.stays w g i tp tn tc d) (fun _ h => h) (i := 13) rfl (by kernel_rfl) (by kernel_rfl) (by kernel_rfl) (by kernel_rfl) (fun _ _ _ h => h) (Gives.value (by rfl) ?yB13) ?rB13
    case yB13 => (intro w' hSw; (try dsimp only at hSw); go_simp; exact wr_eq (by have := HD.out; omega) (by omega))
    (try simp only [Act.put, List.getElem_toArray, List.getElem_cons_zero, List.getElem_cons_succ, List.setIfInBounds_toArray, List.set_cons_zero, List.set_cons_succ])
    refine wpDet_take (.int .i64 (mm : Int)) (CS.stays w g i tp tn tc d) (fun _ h => h) (i := 14) rfl (by kernel_rfl) (by kernel_rfl) (by kernel_rfl) (by kernel_rfl) (fun _ _ _ h => h) (Gives.value (by rfl) ?yB14) ?rB14
    case yB14 => (intro w' hSw; (try dsimp only at hSw); go_simp; (have h1 := HM.out; split <;> omega))
    (try simp only [Act.put, List.getElem_toArray, List.getElem_cons_zero, List.getElem_cons_succ, List.setIfInBounds_toArray, List.set_cons_zero, List.set_cons_succ])
    refine wpDet_take (.int .i64 (z : Int)) (CS.stays w g i tp tn tc d) (fun _ h => h) (i := 15) rfl (by kernel_rfl) (by kernel_rfl) (by kernel_rfl) (by kernel_rfl) (fun _ _ _ h => h) (Gives.value (by rfl) ?yB15) ?rB15
    case yB15 => (intro w' hSw; (try dsimp only at hSw); go_simp; exact wr_eq (by have := HZ.out; omega) (by omega))
    (try simp only [Act.put, List.getElem_toArray, List.getElem_cons_zero, List.getElem_cons_succ, List.setIfInBounds_toArray, List.set_cons_zero, List.set_cons_succ])
    refine wpDet_take (.slice tp z tc) (CS.stays w g i tp tn tc d) (fun _ h => h) (i := 16) rfl (by kernel_rfl) (by kernel_rfl) (by kernel_rfl) (by kernel_rfl) (fun _ _ _ h => h) (Gives.value (by rfl) ?yB16) ?rB16
    case yB16 => (intro w' hSw; (try dsimp only at hSw); go_simp; try (intro hh; exfalso; omega))
    (try simp only [Act.put, List.getElem_toArray, List.getElem_cons_zero, List.getElem_cons_succ, List.setIfInBounds_toArray, List.set_cons_zero, List.set_cons_succ])
    refine wpDet_ready (rs := [17]) (by kernel_rfl) (by simp) (AllDet.cons rfl (fun V hV K hK => ?_) AllDet.nil)
    rw [if_pos (by rfl)]
    refine wp_nil _ rfl _ rfl ?_
    refine hK.out (CS w g i tp tn tc d) _ _ (CS.stays w g i tp tn tc d) (fun _ _ h => h) hV ?_
    clear hK K hV
    (try simp only [Act.put, List.getElem_toArray, List.getElem_cons_zero, List.getElem_cons_succ, List.setIfInBounds_toArray, List.set_cons_zero, List.set_cons_succ])
    refine wpDet_take ?vB18 (CS.stays w g i tp tn tc d) (fun _ h => h) (i := 18) rfl (by kernel_rfl) (by kernel_rfl) (by kernel_rfl) (by kernel_rfl) (fun _ _ _ h => h) (Gives.value (by rfl) ?yB18) ?rB18
    case yB18 => (intro w' hSw; (try dsimp only at hSw); go_simp; try with_reducible rfl)
    (try simp only [Act.put, List.getElem_toArray, List.getElem_cons_zero, List.getElem_cons_succ, List.setIfInBounds_toArray, List.set_cons_zero, List.set_cons_succ])
    refine wpDet_ready (rs := [19]) (by kernel_rfl) (by simp) (AllDet.cons rfl (fun V hV K hK => ?_) AllDet.nil)
    rw [if_pos (by rfl)]
    refine wp_store_slice 22 _ _ rfl g (2 + i * 3) tp z tc _ rfl rfl sizeSl hV.1 hV.2.1 ?_
    refine hK.out (fun V => Ch (fun k => k = g) w V ∧ DC V g { d with fl := upF d.fl i ⟨tp, z, tc, lp, ln, lc, cl0⟩ }) _ _ (fun _ _ h hb => ⟨h.1.trans (Ch.of_below hb _), h.2.below hb h.2.lt⟩) (no_lean (by kernel_rfl)) ⟨(Ch.of_below hV.2.2.2 _).trans (Ch.setCell V ⟨g, 2 + i * 3, none⟩ _), hU V hV.2.2.1⟩ ?_
    clear hK K hV
    (try simp only [Act.put, List.getElem_toArray, List.getElem_cons_zero, List.getElem_cons_succ, List.setIfInBounds_toArray, List.set_cons_zero, List.set_cons_succ])
    refine wpDet_done (by kernel_rfl) (fun w8 hV => ?_) _
    have hS := sync_dc _ g _ hV.2 i hi
    dsimp only at hS
    rw [upF_same, upF_up] at hS
    dsimp only at hS
    go_wp2_with fail
    refine hS.mono ?_
    rintro e w9 ⟨rfl, h1, h2⟩
    go_wp2_with fail
    go_end0
    exact ⟨rfl, hV.1.trans h1, h2⟩

end Go.Proofs.Ytpjhadaiodnnaaa.M
