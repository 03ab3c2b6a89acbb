/-
  Own text: slices.Delete of records.
-/
import Derived.Test.YtnbgdkdnlfomeaaDoorBDm
namespace Go.Proofs.YtnbgdkdnlfomeaaDoor.M
open Go.ChangeShapes Go.WideShapes Go.ChangeAt Go.RowKit Go.ChangeMaps Go.MapKept Go.Maps Go.Shelf Go.Proofs
set_option linter.unusedSimpArgs false

theorem wpList_clear_run {P : Program} (w : World) {ops : Array Oper} {rest : List Oper} {o : Oper} {a : Act} {Q : Exit → Act → World → Prop} (hgd : o.guard = none) (s : Operand) (t : TypeId)
    (ho : o.op = .call { callee := .builtin .clear, args := #[s], argTypes := #[t] }) (v : Value) (hs : a.eval s = v) {v' : Value} {w' : World}
    (hr : (Builtin.clear_ #[t] o.type #[v]).run P w = .ok v' w') (h : wpList P ops Q rest (a.put o.dst v') w') : wpList P ops Q (o :: rest) a w := by
  refine wpList_plain hgd fun K hK => ?_
  unfold Oper.wp execOp
  simp only [ho, resolve, invoke, builtin, Sem.run_bind, Sem.run_pure, Result.andThen_ok, List.map_toArray, List.map_cons, List.map_nil, hs, hr]
  exact hK _ _ h

/-- The cells of one's own are there, to the end of their room. -/
theorem OwG.room {T : Type} {S : Shp T} {e : TypeId} {w : World} {B g n c : Nat} {fs : List T} (h : OwG S e w B (some ⟨g, 0, Option.none⟩) n c fs) (k : Nat) (hk : k < c * S.E) : (w.cell? ⟨g, k, Option.none⟩).isSome = true ∧ w.frozen? ⟨g, k, Option.none⟩ = false := by
  rcases h.own with h1 | h2
  · exact absurd hk (by rw [h1.2]; simp)
  · rcases h2.2 with ⟨hv, hn⟩ | ⟨g', cap, cur, hv, hg, hh, hc2, hm2, hs2, ht2⟩
    · cases hv
    · injection hv with e1 e2 e3
      injection e1 with e1
      injection e1 with e1
      subst e1 e3
      refine ⟨?_, At.free (t := e) hh k⟩
      rw [At.cell (t := e) hh k, Array.getElem?_eq_getElem (by rw [hs2]; exact hk)]
      rfl

/-- The row behind append. -/
structure DQ (w : World) (B g i c : Nat) (l : List Rc) (m : Nat) (W : World) : Prop where
  own : OwG recS 64 W B (some ⟨g, 0, none⟩) m c l
  ch : Ch (mine (some ⟨g, 0, none⟩) c) w W

theorem DQ.stays (w : World) (B g i c : Nat) (l : List Rc) (m : Nat) : Stays (DQ w B g i c l m) := fun _ _ h hb => ⟨h.own.below hb, h.ch.trans (Ch.of_below hb _)⟩

set_option maxRecDepth 20000 in
set_option maxHeartbeats 1000000 in
theorem del_same {w : World} {p : Option Addr} {n c : Nat} (i : Nat) (hi : i ≤ n) (hc : n ≤ c) :
    Calls Tryd.prog 57 #[.slice p n c, .int .i64 i, .int .i64 i] w fun e w' => e = .returned (.slice p n c) ∧ Below w.heap.size w w' := by
  have h1 : (i : Int) ≤ (n : Int) := by omega
  have h2 : (n : Int) ≤ (c : Int) := by omega
  cases p with
  | none =>
    go_enter Tryd.func57, Tryd.ntmps57
    go_wp2_with fail
    all_goals (go_ret; exact ⟨rfl, Below.refl _ _⟩)
  | some ad =>
    go_enter Tryd.func57, Tryd.ntmps57
    go_wp2_with fail
    all_goals (go_ret; exact ⟨rfl, Below.refl _ _⟩)

set_option maxRecDepth 20000 in
set_option maxHeartbeats 1000000 in
theorem del_some {w : World} {B g n c : Nat} {l : List Rc} (ho : OwG recS 64 w B (some ⟨g, 0, none⟩) n c l) (i j : Nat) (hij : i < j) (hj : j ≤ n) (hn : n ≤ 1000) :
    Calls Tryd.prog 57 #[.slice (some ⟨g, 0, none⟩) n c, .int .i64 i, .int .i64 j] w fun e w' => e = .returned (.slice (some ⟨g, 0, none⟩) (i + (n - j)) c) ∧ OwG recS 64 w' B (some ⟨g, 0, none⟩) (i + (n - j)) c (l.take i ++ l.drop j) ∧ Ch (mine (some ⟨g, 0, none⟩) c) w w' := by
  obtain ⟨i0, hi0, hz0, hz1, hz2⟩ := info_parts infoRec
  have hcap := ho.rd.cap
  have h1 : (i : Int) ≤ (j : Int) := by omega
  have h2 : (j : Int) ≤ (n : Int) := by omega
  have h3 : (n : Int) ≤ (c : Int) := by omega
  have h4 : ¬ (i : Int) = (j : Int) := by omega
  have h5 : ¬ i = j := by omega
  have h6 : i ≤ j := by omega
  have h7 : i ≤ n := by omega
  have h8 : ¬ n = i := by omega
  have h9 : ¬ n ≤ i := by omega
  have h10 : i ≤ c := by omega
  have h11 : j ≤ c := by omega
  have hll := ho.len
  obtain ⟨M, hM⟩ : ∃ M, M = i + (n - j) := ⟨_, rfl⟩
  have hMn : M < n := by omega
  have hMi : (M : Int) ≤ (n : Int) := by omega
  have hMc : ¬ c = M := by omega
  have hMc2 : ¬ c ≤ M := by omega
  rw [← hM]
  have happ : ∀ (q : Nat) (d : Nat), (∀ V, Below w.heap.size w V → RdG recS V (some ⟨g, q, none⟩) (n - j) d (l.drop j)) → ∀ V, Below w.heap.size w V → ∃ w9, (Builtin.append_ #[41, 41] 41 #[.slice (some ⟨g, 0, none⟩) i c, .slice (some ⟨g, q, none⟩) (n - j) d]).run Tryd.prog V = .ok (.slice (some ⟨g, 0, none⟩) M c) w9 ∧ OwG recS 64 w9 B (some ⟨g, 0, none⟩) M c (l.take i ++ l.drop j) ∧ Ch (mine (some ⟨g, 0, none⟩) c) V w9 := by
    intro q d hq V hV
    have h := run_appG_in (P := Tryd.prog) V 41 41 64 i0 Tryd.underlying41 hi0 hz1 ((ho.below hV).front h7) (hq V hV) (by omega)
    rw [← hM] at h
    exact h
  have hrd : c = j ∨ (¬ c = j ∧ ∀ V, Below w.heap.size w V → RdG recS V (some ⟨g, j * 14, none⟩) (n - j) (c - j) (l.drop j)) := by
    by_cases hcj : c = j
    · exact Or.inl hcj
    · refine Or.inr ⟨hcj, fun V hV => ?_⟩
      have h := (ho.rd.below hV).back hj
      rw [Nat.zero_add] at h
      exact h
  have hrd0 : c = j → ∀ V, Below w.heap.size w V → RdG recS V (some ⟨g, 0, none⟩) (n - j) 0 (l.drop j) := fun e V _ =>
    ⟨by rw [List.length_drop, hll], by omega, (fun h => by cases h), fun h => absurd h (by omega)⟩
  generalize l.take i ++ l.drop j = l2 at *
  have HM : Hid (M = i + (n - j)) := hM
  clear hM
  go_enter Tryd.func57, Tryd.ntmps57
  go_wp2_with fail
  have hS0 : Bl w w.drew := (Below.refl _ _).drew
  rcases hrd with hcj | ⟨hcj, hrd⟩
  · have hap := happ 0 0 (hrd0 hcj)
    clear happ hrd0
    subst hcj
    have e0 : n - c = 0 := by omega
    rw [e0] at hap
    refine wp_region_det [0, 1, 2, 3, 4, 5, 7] (fun _ => True) (Bl w) (by kernel_rfl) hS0 ?_
    refine wpDet_take ?vW0 (Bl.stays w) (fun _ _ => trivial) (i := 0) rfl (by kernel_rfl) (by kernel_rfl) (by kernel_rfl) (by kernel_rfl) (fun _ _ _ h => h) (Gives.value (by rfl) ?yW0) ?rW0
    case yW0 => (intro w' hSw; (try dsimp only at hSw); go_simp; try with_reducible rfl)
    (try simp only [Act.put, List.getElem_toArray, List.getElem_cons_zero, List.getElem_cons_succ, List.setIfInBounds_toArray, List.set_cons_zero, List.set_cons_succ])
    refine wpDet_take ?vW1 (Bl.stays w) (fun _ _ => trivial) (i := 1) rfl (by kernel_rfl) (by kernel_rfl) (by kernel_rfl) (by kernel_rfl) (fun _ _ _ h => h) (Gives.value (by rfl) ?yW1) ?rW1
    case yW1 => (intro w' hSw; (try dsimp only at hSw); go_simp; try with_reducible rfl)
    (try simp only [Act.put, List.getElem_toArray, List.getElem_cons_zero, List.getElem_cons_succ, List.setIfInBounds_toArray, List.set_cons_zero, List.set_cons_succ])
    refine wpDet_take ?vW2 (Bl.stays w) (fun _ _ => trivial) (i := 2) rfl (by kernel_rfl) (by kernel_rfl) (by kernel_rfl) (by kernel_rfl) (fun _ _ _ h => h) (Gives.value (by rfl) ?yW2) ?rW2
    case yW2 => (intro w' hSw; (try dsimp only at hSw); go_simp; try with_reducible rfl)
    (try simp only [Act.put, List.getElem_toArray, List.getElem_cons_zero, List.getElem_cons_succ, List.setIfInBounds_toArray, List.set_cons_zero, List.set_cons_succ])
    refine wpDet_take ?vW3 (Bl.stays w) (fun _ _ => trivial) (i := 3) rfl (by kernel_rfl) (by kernel_rfl) (by kernel_rfl) (by kernel_rfl) (fun _ _ _ h => h) (Gives.value (by rfl) ?yW3) ?rW3
    case yW3 => (intro w' hSw; (try dsimp only at hSw); go_simp; try with_reducible rfl)
    (try simp only [Act.put, List.getElem_toArray, List.getElem_cons_zero, List.getElem_cons_succ, List.setIfInBounds_toArray, List.set_cons_zero, List.set_cons_succ])
    refine wpDet_take ?vW4 (Bl.stays w) (fun _ _ => trivial) (i := 4) rfl (by kernel_rfl) (by kernel_rfl) (by kernel_rfl) (by kernel_rfl) (fun _ _ _ h => h) (Gives.value (by rfl) ?yW4) ?rW4
    case yW4 => (intro w' hSw; (try dsimp only at hSw); go_simp; try with_reducible rfl)
    (try simp only [Act.put, List.getElem_toArray, List.getElem_cons_zero, List.getElem_cons_succ, List.setIfInBounds_toArray, List.set_cons_zero, List.set_cons_succ])
    refine wpDet_take ?vW5 (Bl.stays w) (fun _ _ => trivial) (i := 5) rfl (by kernel_rfl) (by kernel_rfl) (by kernel_rfl) (by kernel_rfl) (fun _ _ _ h => h) (Gives.value (by rfl) ?yW5) ?rW5
    case yW5 => (intro w' hSw; (try dsimp only at hSw); go_simp; try with_reducible rfl)
    (try simp only [Act.put, List.getElem_toArray, List.getElem_cons_zero, List.getElem_cons_succ, List.setIfInBounds_toArray, List.set_cons_zero, List.set_cons_succ])
    refine wpDet_ready (rs := [6]) (by kernel_rfl) (by simp) (AllDet.cons rfl (fun V hV K hK => ?_) AllDet.nil)
    rw [if_pos (by rfl)]
    have hbV := Bl.out hV
    obtain ⟨w9, hrun, ho9, hch9⟩ := hap V hbV
    refine wp_app _ _ _ rfl _ _ rfl rfl _ w9 hrun ?_
    have hz9 : DQ w B g i c l2 M w9 := ⟨ho9, (Ch.of_below hbV _).trans hch9⟩
    refine hK.out (DQ w B g i c l2 M) _ _ (DQ.stays _ _ _ _ _ _ _) (fun _ _ _ => trivial) hz9 ?_
    clear hK K hV hrun ho9 hch9 hz9 hbV
    (try simp only [Act.put, List.getElem_toArray, List.getElem_cons_zero, List.getElem_cons_succ, List.setIfInBounds_toArray, List.set_cons_zero, List.set_cons_succ])
    refine wpDet_take ?vW7 (DQ.stays _ _ _ _ _ _ _) (fun _ _ => trivial) (i := 7) rfl (by kernel_rfl) (by kernel_rfl) (by kernel_rfl) (by kernel_rfl) (fun _ _ _ h => h) (Gives.value (by rfl) ?yW7) ?rW7
    case yW7 => (intro w' hSw; (try dsimp only at hSw); go_simp; try with_reducible rfl)
    (try simp only [Act.put, List.getElem_toArray, List.getElem_cons_zero, List.getElem_cons_succ, List.setIfInBounds_toArray, List.set_cons_zero, List.set_cons_succ])
    refine wpDet_done (by kernel_rfl) (fun W9 hV => ?_) _
    obtain ⟨ho9, hch9⟩ := hV
    obtain ⟨vs, hvl, hclr⟩ := run_clear_rec W9 0 g (M * 14) (n - M) (c - M) (by omega) (fun k hk => (ho9.room (M * 14 + k) (by show M * 14 + k < c * 14; omega)).1) (fun k hk => (ho9.room (M * 14 + k) (by show M * 14 + k < c * 14; omega)).2)
    have hoc := ho9.cleared vs (o := M * 14) (Nat.le_refl _)
    have hcc := hch9.trans ((Ch.setCells g vs (M * 14) W9).mono fun k _ e => (show mine (some ⟨g, 0, none⟩) c k from ⟨by omega, _, rfl, e.symm⟩))
    clear ho9 hch9
    go_wp2_with (refine wpList_clear_run _ rfl (.tmp 31) 41 rfl _ rfl hclr ?_)
    go_ret
    exact ⟨rfl, hoc, hcc⟩
  · have hap := happ (j * 14) (c - j) hrd
    have hcj2 : ¬ c ≤ j := by omega
    clear happ hrd0 hrd
    refine wp_region_det [0, 1, 2, 3, 4, 5, 7] (fun _ => True) (Bl w) (by kernel_rfl) hS0 ?_
    refine wpDet_take ?vX0 (Bl.stays w) (fun _ _ => trivial) (i := 0) rfl (by kernel_rfl) (by kernel_rfl) (by kernel_rfl) (by kernel_rfl) (fun _ _ _ h => h) (Gives.value (by rfl) ?yX0) ?rX0
    case yX0 => (intro w' hSw; (try dsimp only at hSw); go_simp; try with_reducible rfl)
    (try simp only [Act.put, List.getElem_toArray, List.getElem_cons_zero, List.getElem_cons_succ, List.setIfInBounds_toArray, List.set_cons_zero, List.set_cons_succ])
    refine wpDet_take ?vX1 (Bl.stays w) (fun _ _ => trivial) (i := 1) rfl (by kernel_rfl) (by kernel_rfl) (by kernel_rfl) (by kernel_rfl) (fun _ _ _ h => h) (Gives.value (by rfl) ?yX1) ?rX1
    case yX1 => (intro w' hSw; (try dsimp only at hSw); go_simp; try with_reducible rfl)
    (try simp only [Act.put, List.getElem_toArray, List.getElem_cons_zero, List.getElem_cons_succ, List.setIfInBounds_toArray, List.set_cons_zero, List.set_cons_succ])
    refine wpDet_take ?vX2 (Bl.stays w) (fun _ _ => trivial) (i := 2) rfl (by kernel_rfl) (by kernel_rfl) (by kernel_rfl) (by kernel_rfl) (fun _ _ _ h => h) (Gives.value (by rfl) ?yX2) ?rX2
    case yX2 => (intro w' hSw; (try dsimp only at hSw); go_simp; try with_reducible rfl)
    (try simp only [Act.put, List.getElem_toArray, List.getElem_cons_zero, List.getElem_cons_succ, List.setIfInBounds_toArray, List.set_cons_zero, List.set_cons_succ])
    refine wpDet_take ?vX3 (Bl.stays w) (fun _ _ => trivial) (i := 3) rfl (by kernel_rfl) (by kernel_rfl) (by kernel_rfl) (by kernel_rfl) (fun _ _ _ h => h) (Gives.value (by rfl) ?yX3) ?rX3
    case yX3 => (intro w' hSw; (try dsimp only at hSw); go_simp; try with_reducible rfl)
    (try simp only [Act.put, List.getElem_toArray, List.getElem_cons_zero, List.getElem_cons_succ, List.setIfInBounds_toArray, List.set_cons_zero, List.set_cons_succ])
    refine wpDet_take ?vX4 (Bl.stays w) (fun _ _ => trivial) (i := 4) rfl (by kernel_rfl) (by kernel_rfl) (by kernel_rfl) (by kernel_rfl) (fun _ _ _ h => h) (Gives.value (by rfl) ?yX4) ?rX4
    case yX4 => (intro w' hSw; (try dsimp only at hSw); go_simp; try with_reducible rfl)
    (try simp only [Act.put, List.getElem_toArray, List.getElem_cons_zero, List.getElem_cons_succ, List.setIfInBounds_toArray, List.set_cons_zero, List.set_cons_succ])
    refine wpDet_take ?vX5 (Bl.stays w) (fun _ _ => trivial) (i := 5) rfl (by kernel_rfl) (by kernel_rfl) (by kernel_rfl) (by kernel_rfl) (fun _ _ _ h => h) (Gives.value (by rfl) ?yX5) ?rX5
    case yX5 => (intro w' hSw; (try dsimp only at hSw); go_simp; try with_reducible rfl)
    (try simp only [Act.put, List.getElem_toArray, List.getElem_cons_zero, List.getElem_cons_succ, List.setIfInBounds_toArray, List.set_cons_zero, List.set_cons_succ])
    refine wpDet_ready (rs := [6]) (by kernel_rfl) (by simp) (AllDet.cons rfl (fun V hV K hK => ?_) AllDet.nil)
    rw [if_pos (by rfl)]
    have hbV := Bl.out hV
    obtain ⟨w9, hrun, ho9, hch9⟩ := hap V hbV
    refine wp_app _ _ _ rfl _ _ rfl rfl _ w9 hrun ?_
    have hz9 : DQ w B g i c l2 M w9 := ⟨ho9, (Ch.of_below hbV _).trans hch9⟩
    refine hK.out (DQ w B g i c l2 M) _ _ (DQ.stays _ _ _ _ _ _ _) (fun _ _ _ => trivial) hz9 ?_
    clear hK K hV hrun ho9 hch9 hz9 hbV
    (try simp only [Act.put, List.getElem_toArray, List.getElem_cons_zero, List.getElem_cons_succ, List.setIfInBounds_toArray, List.set_cons_zero, List.set_cons_succ])
    refine wpDet_take ?vX7 (DQ.stays _ _ _ _ _ _ _) (fun _ _ => trivial) (i := 7) rfl (by kernel_rfl) (by kernel_rfl) (by kernel_rfl) (by kernel_rfl) (fun _ _ _ h => h) (Gives.value (by rfl) ?yX7) ?rX7
    case yX7 => (intro w' hSw; (try dsimp only at hSw); go_simp; try with_reducible rfl)
    (try simp only [Act.put, List.getElem_toArray, List.getElem_cons_zero, List.getElem_cons_succ, List.setIfInBounds_toArray, List.set_cons_zero, List.set_cons_succ])
    refine wpDet_done (by kernel_rfl) (fun W9 hV => ?_) _
    obtain ⟨ho9, hch9⟩ := hV
    obtain ⟨vs, hvl, hclr⟩ := run_clear_rec W9 0 g (M * 14) (n - M) (c - M) (by omega) (fun k hk => (ho9.room (M * 14 + k) (by show M * 14 + k < c * 14; omega)).1) (fun k hk => (ho9.room (M * 14 + k) (by show M * 14 + k < c * 14; omega)).2)
    have hoc := ho9.cleared vs (o := M * 14) (Nat.le_refl _)
    have hcc := hch9.trans ((Ch.setCells g vs (M * 14) W9).mono fun k _ e => (show mine (some ⟨g, 0, none⟩) c k from ⟨by omega, _, rfl, e.symm⟩))
    clear ho9 hch9
    go_wp2_with (refine wpList_clear_run _ rfl (.tmp 31) 41 rfl _ rfl hclr ?_)
    go_ret
    exact ⟨rfl, hoc, hcc⟩


end Go.Proofs.YtnbgdkdnlfomeaaDoor.M
