/-
  Own text: the document's Net: Lose.
-/
import Derived.Test.YtmnipfdcbmamnaaXRef4
namespace Go.Proofs.Ytmnipfdcbmamnaa.M
open Go.ChangeShapes Go.WideShapes Go.ChangeAt Go.RowKit Go.ChangeMaps Go.MapKept Go.Maps
set_option linter.unusedSimpArgs false

theorem wp_store_slice {P : Program} {op : Oper} {a : Act} {w : World} {K : Act → World → Prop} {Q : Exit → Act → World → Prop} (ty : TypeId) (x y : Operand) (ho : op.op = .store ty x y) (b o : Nat) (p : Option Addr) (n c : Nat) (u : Value)
    (hx : a.eval x = .pointer (some ⟨b, o, none⟩)) (hy : a.eval y = .slice p n c) (hsz : (P.info? ty).map (·.size) = some 1) (hc : w.cell? ⟨b, o, none⟩ = some u) (hf : w.frozen? ⟨b, o, none⟩ = false)
    (h : K (a.put op.dst undef) (w.setCell ⟨b, o, none⟩ (.slice p n c))) : op.wp P a w K Q := by
  have hrun : (storeVar ty ⟨b, o, none⟩ (.slice p n c)).run P w = .ok () (w.setCell ⟨b, o, none⟩ (.slice p n c)) := by
    have := run_storeCells_cells (P := P) b o [.slice p n c] 0 w (fun j hj => by
        match j, hj with
        | 0, _ => rw [Nat.add_zero, hc]; rfl) (fun j hj => by
        match j, hj with
        | 0, _ => exact hf) (fun u hu => by rw [List.mem_singleton.1 hu]; rfl)
    cases hq : P.info? ty with
    | none => simp [hq] at hsz
    | some i =>
      have hs : i.size = 1 := by simpa [hq] using hsz
      simp only [Nat.add_zero] at this
      simp [storeVar, sizeOf, typeInfo, hq, Value.cells, hs, this, World.setCells]
  unfold Oper.wp execOp
  simp only [ho, hx, hy, Instr.storeAt, Instr.sureAddr, Sem.run_bind, Sem.run_pure, Result.andThen_ok, hrun]
  exact h

theorem sizeSlI : (Try.prog.info? 28).map (·.size) = some 1 := by kernel_rfl

theorem RdI.behind {w : World} {b o n c k : Nat} {its : List It} (h : RdI w (some ⟨b, o, none⟩) n c its) (hk : k ≤ n) {qb : Option Addr} (hq : qb = if c = k then some (⟨b, o, none⟩ : Addr) else some ⟨b, o + k * 3, none⟩) : RdI w qb (n - k) (c - k) (its.drop k) := by
  have hcap := h.cap
  by_cases hkn : k < n
  · rw [hq, if_neg (show ¬ c = k by omega)]
    exact h.back hkn
  · refine ⟨by rw [List.length_drop, h.len], by omega, fun e => ?_, fun h0 => absurd h0 (by omega), fun _ _ h0 => absurd h0 (by omega)⟩
    rw [hq] at e
    split at e
    · cases e
    · cases e

theorem OwI.empty (V : World) {B : Nat} (hB : B ≤ V.heap.size) : OwI (V.alloc (.cells #[] 77)) B (.slice (some ⟨V.heap.size, 0, none⟩) 0 0) [] :=
  ⟨rfl, Or.inr ⟨V.heap.size, 0, #[], rfl, hB, heap_alloc_new V _, Nat.le_refl _, Nat.zero_le _, rfl, rfl⟩⟩

theorem OwI.stays (w : World) (v : Value) (l : List It) : Stays (fun W => Bl w W ∧ OwI W w.heap.size v l) := fun W W' h hb => ⟨Bl.stays w W W' h.1 hb, h.2.below hb⟩

set_option maxRecDepth 20000 in
set_option maxHeartbeats 4000000 in
theorem rLose_yes {w : World} {gx : Nat} {p : Option Addr} {n c : Nat} {bs : List Bool} {lost : Int} {its : List It} (h : XB w gx p n c bs lost its) (hn : n ≤ 1000000) (x y i : Int) {at_ : Nat} (hp : plR x y its i 0 = some at_) :
    Calls Try.prog 32 #[.pointer (some ⟨gx, 0, none⟩), .agg #[.int .i64 x, .int .i64 y], .int .i64 i] w fun o w' => o = .returned (.int .i64 0) ∧ (∃ q m d, XB w' gx q m d bs lost (its.eraseIdx at_)) ∧ Ex gx w w' := by
  have hba := below_alloc w (.cells #[.int .i64 x, .int .i64 y] 33)
  have hA := At.new 33 w #[.int .i64 x, .int .i64 y]
  obtain ⟨a0, a1⟩ := hA.two
  have h1 := h.below hba
  have hP := rplace_any _ gx p n c its h1.c0 h1.rd hn x y i
  have hV : plV x y its i = (at_ : Int) := by unfold plV; rw [hp]; rfl
  rw [hV] at hP
  have hlt : at_ < n := by have := (plR_some x y its i 0 at_ hp).1.2; rw [h.rd.len] at this; omega
  have hng : ¬ (at_ : Int) < 0 := by omega
  have hgl : gx < w.heap.size := h.blk.lt
  clear h hA hV hp
  go_enter Try.func32, Try.ntmps32
  go_wp2_with fail
  refine hP.mono ?_
  rintro o w2 ⟨rfl, hw⟩
  clear hP a0 a1
  have hX2 := h1.below hw
  have hb0 := hba.trans (hw.mono hba.size)
  have hcap := hX2.rd.cap
  have hlen := hX2.rd.len
  have hle : at_ ≤ n := Nat.le_of_lt hlt
  have hwr : IntKind.i64.wrap ((at_ : Int) + 1) = (at_ : Int) + 1 := by rw [IntKind.wrap_i64]; omega
  have hfl : ([] ++ its.take at_).length ≤ 1000000 := by rw [List.nil_append, List.length_take]; omega
  obtain ⟨gb, go, rfl, -⟩ := hX2.rd.cells (by omega)
  obtain ⟨qb, hqb⟩ : ∃ z, z = (if c = at_ + 1 then some (⟨gb, go, none⟩ : Addr) else some ⟨gb, go + (at_ + 1) * 3, none⟩) := ⟨_, rfl⟩
  have hBK := hX2.rd.behind (k := at_ + 1) (by omega) hqb
  clear h1 hw hba
  go_wp2_with fail
  have hS0 : Bl w2 w2.drew := (Below.refl _ _).drew
  refine wp_region_det [0, 2, 3, 4, 5, 6, 7, 9, 10, 11, 12, 13, 14, 15] (fun W => XB W gx (some ⟨gb, go, none⟩) n c bs lost its) (Bl w2) (by kernel_rfl) hS0 ?_
  refine wpDet_take ?vA0 (Bl.stays w2) (fun W h => hX2.below h) (i := 0) rfl (by kernel_rfl) (by kernel_rfl) (by kernel_rfl) (by kernel_rfl) (fun _ _ _ h => h) (Gives.value (by rfl) ?yA0) ?rA0
  case yA0 => (intro w' hSw; go_simp; try with_reducible rfl)
  (try simp only [Act.put, List.getElem_toArray, List.getElem_cons_zero, List.getElem_cons_succ, List.setIfInBounds_toArray, List.set_cons_zero, List.set_cons_succ])
  refine wpDet_take ?vA2 (Bl.stays w2) (fun W h => hX2.below h) (i := 2) rfl (by kernel_rfl) (by kernel_rfl) (by kernel_rfl) (by kernel_rfl) (fun _ _ _ h => h) (Gives.value (by rfl) ?yA2) ?rA2
  case yA2 => (intro w' hSw; go_simp; try with_reducible rfl)
  (try simp only [Act.put, List.getElem_toArray, List.getElem_cons_zero, List.getElem_cons_succ, List.setIfInBounds_toArray, List.set_cons_zero, List.set_cons_succ])
  refine wpDet_take ?vA3 (Bl.stays w2) (fun W h => hX2.below h) (i := 3) rfl (by kernel_rfl) (by kernel_rfl) (by kernel_rfl) (by kernel_rfl) (fun _ _ _ h => h) (Gives.value (by rfl) ?yA3) ?rA3
  case yA3 => (intro w' hSw; go_simp; try with_reducible rfl)
  (try simp only [Act.put, List.getElem_toArray, List.getElem_cons_zero, List.getElem_cons_succ, List.setIfInBounds_toArray, List.set_cons_zero, List.set_cons_succ])
  refine wpDet_take ?vA4 (Bl.stays w2) (fun W h => hX2.below h) (i := 4) rfl (by kernel_rfl) (by kernel_rfl) (by kernel_rfl) (by kernel_rfl) (fun _ _ _ h => h) (Gives.value (by rfl) ?yA4) ?rA4
  case yA4 => (intro w' hSw; go_simp; try with_reducible rfl)
  (try simp only [Act.put, List.getElem_toArray, List.getElem_cons_zero, List.getElem_cons_succ, List.setIfInBounds_toArray, List.set_cons_zero, List.set_cons_succ])
  refine wpDet_take ?vA5 (Bl.stays w2) (fun W h => hX2.below h) (i := 5) rfl (by kernel_rfl) (by kernel_rfl) (by kernel_rfl) (by kernel_rfl) (fun _ _ _ h => h) (Gives.value (by rfl) ?yA5) ?rA5
  case yA5 => (intro w' hSw; have hz0 := hSw.c0; go_simp; try with_reducible rfl)
  (try simp only [Act.put, List.getElem_toArray, List.getElem_cons_zero, List.getElem_cons_succ, List.setIfInBounds_toArray, List.set_cons_zero, List.set_cons_succ])
  refine wpDet_take ?vA6 (Bl.stays w2) (fun W h => hX2.below h) (i := 6) rfl (by kernel_rfl) (by kernel_rfl) (by kernel_rfl) (by kernel_rfl) (fun _ _ _ h => h) (Gives.value (by rfl) ?yA6) ?rA6
  case yA6 => (intro w' hSw; go_simp; try with_reducible rfl)
  (try simp only [Act.put, List.getElem_toArray, List.getElem_cons_zero, List.getElem_cons_succ, List.setIfInBounds_toArray, List.set_cons_zero, List.set_cons_succ])
  refine wpDet_take (.slice (some ⟨gb, go, none⟩) at_ c) (Bl.stays w2) (fun W h => hX2.below h) (i := 7) rfl (by kernel_rfl) (by kernel_rfl) (by kernel_rfl) (by kernel_rfl) (fun _ _ _ h => h) (Gives.value (by rfl) ?yA7) ?rA7
  case yA7 => (intro w' hSw; go_simp; (try (intro hh; omega)))
  (try simp only [Act.put, List.getElem_toArray, List.getElem_cons_zero, List.getElem_cons_succ, List.setIfInBounds_toArray, List.set_cons_zero, List.set_cons_succ])
  refine wpDet_take ?vA9 (Bl.stays w2) (fun W h => hX2.below h) (i := 9) rfl (by kernel_rfl) (by kernel_rfl) (by kernel_rfl) (by kernel_rfl) (fun _ _ _ h => h) (Gives.value (by rfl) ?yA9) ?rA9
  case yA9 => (intro w' hSw; go_simp; try with_reducible rfl)
  (try simp only [Act.put, List.getElem_toArray, List.getElem_cons_zero, List.getElem_cons_succ, List.setIfInBounds_toArray, List.set_cons_zero, List.set_cons_succ])
  refine wpDet_take ?vA10 (Bl.stays w2) (fun W h => hX2.below h) (i := 10) rfl (by kernel_rfl) (by kernel_rfl) (by kernel_rfl) (by kernel_rfl) (fun _ _ _ h => h) (Gives.value (by rfl) ?yA10) ?rA10
  case yA10 => (intro w' hSw; go_simp; try with_reducible rfl)
  (try simp only [Act.put, List.getElem_toArray, List.getElem_cons_zero, List.getElem_cons_succ, List.setIfInBounds_toArray, List.set_cons_zero, List.set_cons_succ])
  refine wpDet_take ?vA11 (Bl.stays w2) (fun W h => hX2.below h) (i := 11) rfl (by kernel_rfl) (by kernel_rfl) (by kernel_rfl) (by kernel_rfl) (fun _ _ _ h => h) (Gives.value (by rfl) ?yA11) ?rA11
  case yA11 => (intro w' hSw; go_simp; try with_reducible rfl)
  (try simp only [Act.put, List.getElem_toArray, List.getElem_cons_zero, List.getElem_cons_succ, List.setIfInBounds_toArray, List.set_cons_zero, List.set_cons_succ])
  refine wpDet_take ?vA12 (Bl.stays w2) (fun W h => hX2.below h) (i := 12) rfl (by kernel_rfl) (by kernel_rfl) (by kernel_rfl) (by kernel_rfl) (fun _ _ _ h => h) (Gives.value (by rfl) ?yA12) ?rA12
  case yA12 => (intro w' hSw; have hz0 := hSw.c0; go_simp; try with_reducible rfl)
  (try simp only [Act.put, List.getElem_toArray, List.getElem_cons_zero, List.getElem_cons_succ, List.setIfInBounds_toArray, List.set_cons_zero, List.set_cons_succ])
  refine wpDet_take ?vA13 (Bl.stays w2) (fun W h => hX2.below h) (i := 13) rfl (by kernel_rfl) (by kernel_rfl) (by kernel_rfl) (by kernel_rfl) (fun _ _ _ h => h) (Gives.value (by rfl) ?yA13) ?rA13
  case yA13 => (intro w' hSw; go_simp; try with_reducible rfl)
  (try simp only [Act.put, List.getElem_toArray, List.getElem_cons_zero, List.getElem_cons_succ, List.setIfInBounds_toArray, List.set_cons_zero, List.set_cons_succ])
  refine wpDet_take ?vA14 (Bl.stays w2) (fun W h => hX2.below h) (i := 14) rfl (by kernel_rfl) (by kernel_rfl) (by kernel_rfl) (by kernel_rfl) (fun _ _ _ h => h) (Gives.value (by rfl) ?yA14) ?rA14
  case yA14 => (intro w' hSw; go_simp; try with_reducible rfl)
  (try simp only [Act.put, List.getElem_toArray, List.getElem_cons_zero, List.getElem_cons_succ, List.setIfInBounds_toArray, List.set_cons_zero, List.set_cons_succ])
  refine wpDet_take (.slice qb (n - (at_ + 1)) (c - (at_ + 1))) (Bl.stays w2) (fun W h => hX2.below h) (i := 15) rfl (by kernel_rfl) (by kernel_rfl) (by kernel_rfl) (by kernel_rfl) (fun _ _ _ h => h) (Gives.value (by rfl) ?yA15) ?rA15
  case yA15 => (intro w' hSw; go_simp; (try (intro hh; have := hh (by omega); omega)))
  (try simp only [Act.put, List.getElem_toArray, List.getElem_cons_zero, List.getElem_cons_succ, List.setIfInBounds_toArray, List.set_cons_zero, List.set_cons_succ])
  refine wpDet_ready (rs := [1]) (by kernel_rfl) (by simp) (AllDet.cons rfl (fun V hV K hK => ?_) AllDet.nil)
  rw [if_pos (by rfl)]
  refine wp_value (.slice (some ⟨V.heap.size, 0, none⟩) 0 0) (V.alloc (.cells #[] 77)) (by first | (go_simp; done) | (go_simp; rfl)) ?_
  have hba := below_alloc V (.cells #[] 77)
  have hO := OwI.empty V hV.size
  have hb5 := Bl.stays w2 V _ hV hba
  generalize (Value.slice (some ⟨V.heap.size, 0, none⟩) 0 0) = v0 at *
  refine hK.out (fun W => Bl w2 W ∧ OwI W w2.heap.size v0 []) _ _ (OwI.stays w2 v0 []) (fun _ W h => hX2.below h.1) ⟨hb5, hO⟩ ?_
  clear hK K hV hba hO hb5
  (try simp only [Act.put, List.getElem_toArray, List.getElem_cons_zero, List.getElem_cons_succ, List.setIfInBounds_toArray, List.set_cons_zero, List.set_cons_succ])
  refine wpDet_ready (rs := [8]) (by kernel_rfl) (by simp) (AllDet.cons rfl (fun V hV K hK => ?_) AllDet.nil)
  rw [if_pos (by rfl)]
  obtain ⟨v1, V1, hrun, hO1, hb1⟩ := run_appI 28 hV.2 ((hX2.below hV.1).rd.front hle) (Nat.zero_le _) (by omega) hV.1.size
  refine wp_app _ _ 28 rfl v0 (.slice (some ⟨gb, go, none⟩) at_ c) rfl rfl v1 V1 hrun ?_
  have hb5 : Bl w2 V1 := Below.trans hV.1 hb1
  refine hK.out (fun W => Bl w2 W ∧ OwI W w2.heap.size v1 ([] ++ its.take at_)) _ _ (OwI.stays w2 v1 _) (fun _ W h => hX2.below h.1) ⟨hb5, hO1⟩ ?_
  clear hK K hV hrun hO1 hb1 hb5
  (try simp only [Act.put, List.getElem_toArray, List.getElem_cons_zero, List.getElem_cons_succ, List.setIfInBounds_toArray, List.set_cons_zero, List.set_cons_succ])
  refine wpDet_ready (rs := [16]) (by kernel_rfl) (by simp) (AllDet.cons rfl (fun V hV K hK => ?_) AllDet.nil)
  rw [if_pos (by rfl)]
  obtain ⟨v2, V2, hrun, hO2, hb2⟩ := run_appI 28 hV.2 (hBK.below hV.1) hfl (by omega) hV.1.size
  refine wp_app _ _ 28 rfl v1 (.slice qb (n - (at_ + 1)) (c - (at_ + 1))) rfl rfl v2 V2 hrun ?_
  have hb5 : Bl w2 V2 := Below.trans hV.1 hb2
  refine hK.out (fun W => Bl w2 W ∧ OwI W w2.heap.size v2 (([] ++ its.take at_) ++ its.drop (at_ + 1))) _ _ (OwI.stays w2 v2 _) (fun _ W h => hX2.below h.1) ⟨hb5, hO2⟩ ?_
  clear hK K hV hrun hO2 hb2 hb5
  (try simp only [Act.put, List.getElem_toArray, List.getElem_cons_zero, List.getElem_cons_succ, List.setIfInBounds_toArray, List.set_cons_zero, List.set_cons_succ])
  refine wpDet_ready (rs := [17]) (by kernel_rfl) (by simp) (AllDet.cons rfl (fun V hV K hK => ?_) AllDet.nil)
  rw [if_pos (by rfl)]
  refine wp_value (.pointer (some ⟨gx, 0, none⟩)) V (by first | (go_simp; done) | (go_simp; rfl)) ?_
  refine hK.out (fun W => Bl w2 W ∧ OwI W w2.heap.size v2 (([] ++ its.take at_) ++ its.drop (at_ + 1))) _ _ (OwI.stays w2 v2 _) (fun _ W h => hX2.below h.1) hV ?_
  clear hK K hV
  (try simp only [Act.put, List.getElem_toArray, List.getElem_cons_zero, List.getElem_cons_succ, List.setIfInBounds_toArray, List.set_cons_zero, List.set_cons_succ])
  refine wpDet_ready (rs := [18]) (by kernel_rfl) (by simp) (AllDet.cons rfl (fun V hV K hK => ?_) AllDet.nil)
  rw [if_pos (by rfl)]
  refine wp_value (.pointer (some ⟨gx, 0, none⟩)) V (by first | (go_simp; done) | (go_simp; rfl)) ?_
  refine hK.out (fun W => Bl w2 W ∧ OwI W w2.heap.size v2 (([] ++ its.take at_) ++ its.drop (at_ + 1))) _ _ (OwI.stays w2 v2 _) (fun _ W h => hX2.below h.1) hV ?_
  clear hK K hV
  (try simp only [Act.put, List.getElem_toArray, List.getElem_cons_zero, List.getElem_cons_succ, List.setIfInBounds_toArray, List.set_cons_zero, List.set_cons_succ])
  refine wpDet_ready (rs := [19]) (by kernel_rfl) (by simp) (AllDet.cons rfl (fun V hV K hK => ?_) AllDet.nil)
  rw [if_pos (by rfl)]
  obtain ⟨q3, d3, rfl, hq3, hr3⟩ := hV.2.rd
  have hXV := hX2.below hV.1
  refine wp_store_slice _ _ _ rfl gx 0 q3 _ d3 _ rfl rfl sizeSlI hXV.c0 (hXV.blk.free 0) ?_
  have hz := hXV.put hr3 (fun a e _ => by have := hq3 a e; have := hX2.blk.lt; omega)
  have hez : Ex gx w2 (V.setCell ⟨gx, 0, none⟩ (.slice q3 (([] ++ its.take at_) ++ its.drop (at_ + 1)).length d3)) := (Ex.of_below hV.1).setCell 0 _
  refine hK.out (fun W => (∃ q m d, XB W gx q m d bs lost (([] ++ its.take at_) ++ its.drop (at_ + 1))) ∧ Ex gx w2 W) _ _ (fun W W' h hb => ⟨by obtain ⟨q, m, d, hx⟩ := h.1; exact ⟨q, m, d, hx.below hb⟩, h.2.trans (Ex.of_below hb)⟩) (no_lean (by kernel_rfl)) ⟨⟨_, _, _, hz⟩, hez⟩ ?_
  clear hK K hV hXV hz hez hr3 hq3
  (try simp only [Act.put, List.getElem_toArray, List.getElem_cons_zero, List.getElem_cons_succ, List.setIfInBounds_toArray, List.set_cons_zero, List.set_cons_succ])
  refine wpDet_done (by kernel_rfl) (fun W6 hW6 => ?_) _
  obtain ⟨hz6, hez6⟩ := hW6
  clear hX2 hBK
  go_wp2_with fail
  go_ret
  refine ⟨rfl, ?_, (Ex.of_below hb0).trans hez6⟩
  rw [List.eraseIdx_eq_take_drop_succ]
  rw [List.nil_append] at hz6
  exact hz6

end Go.Proofs.Ytmnipfdcbmamnaa.M
