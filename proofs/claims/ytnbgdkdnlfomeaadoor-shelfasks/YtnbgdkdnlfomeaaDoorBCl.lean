/-
  Own text: slices.Clone of records.
-/
import Derived.Test.YtnbgdkdnlfomeaaDoorBAd
namespace Go.Proofs.YtnbgdkdnlfomeaaDoor.M
open Go.ChangeShapes Go.WideShapes Go.ChangeAt Go.RowKit Go.ChangeMaps Go.MapKept Go.Maps Go.Shelf Go.Proofs
set_option linter.unusedSimpArgs false

theorem wpList_app_run {P : Program} {w : World} {ops : Array Oper} {rest : List Oper} {o : Oper} {a : Act} {Q : Exit → Act → World → Prop} (hgd : o.guard = none) (s x : Operand) (t : TypeId)
    (ho : o.op = .call { callee := .builtin .append, args := #[s, x], argTypes := #[t, t] }) (u v : Value) (hs : a.eval s = u) (hx : a.eval x = v) {y : Value} {w' : World}
    (hr : (Builtin.append_ #[t, t] o.type #[u, v]).run P w = .ok y w') (h : wpList P ops Q rest (a.put o.dst y) w') : wpList P ops Q (o :: rest) a w := by
  refine wpList_plain hgd fun K hK => ?_
  unfold Oper.wp execOp
  simp only [ho, resolve, invoke, builtin, Sem.run_bind, Sem.run_pure, Result.andThen_ok, List.map_toArray, List.map_cons, List.map_nil, hs, hx, hr]
  exact hK _ _ h

set_option maxRecDepth 20000 in
theorem rclone_any {w : World} {p : Option Addr} {n c : Nat} {l : List Rc} (hr : RdG recS w p n c l) (hn : n ≤ 1000) :
    Calls Tryd.prog 50 #[.slice p n c] w fun e w' => ∃ p' c', e = .returned (.slice p' n c') ∧ OwG recS 64 w' w.heap.size p' n c' l ∧ Below w.heap.size w w' ∧ ∀ k, mine p' c' k → w.heap.size ≤ k := by
  have q22 : ∀ (w : World) (a : Option Addr) (n c n' c' : Nat), (binOp .eql 41 (.slice a n c) (.slice none n' c')).run Tryd.prog w = .ok (.bool a.isNone) w := fun w a n c n' c' => Lib.run_eql_slice_nil w _ _ a n c n' c' Tryd.underlying41
  obtain ⟨i0, hi0, hz0, hz1, hz2⟩ := info_parts infoRec
  cases p with
  | none =>
    have hc0 := hr.nil rfl
    have hn0 : n = 0 := by have := hr.cap; omega
    subst hn0
    subst hc0
    have hx : l = [] := List.length_eq_zero_iff.1 hr.len
    subst hx
    go_enter Tryd.func50, Tryd.ntmps50
    go_wp2_with fail
    go_ret
    exact ⟨none, 0, rfl, OwG.none _ _ _ _, Below.refl _ _, fun k hk => absurd hk.1 (Nat.lt_irrefl _)⟩
  | some ad =>
    have hba := below_alloc' w (.cells #[] 64)
    have hra := hr.below hba
    obtain ⟨p9, c9, w9, hrun, ho9, hch9, hnew9⟩ := run_appG (P := Tryd.prog) (w.alloc (.cells #[] 64)) 41 41 64 i0 _ 64 Tryd.underlying41 hi0 hz0 hz1 hz2 rfl (B := w.heap.size) (p := some ⟨w.heap.size, 0, none⟩) (n := 0) (c := 0) (fs := []) ⟨rfl, Or.inl ⟨rfl, rfl⟩⟩ hra (by omega) (by unfold maxLen; omega) hba.size
    rw [Nat.zero_add, List.nil_append] at ho9
    rw [Nat.zero_add] at hrun
    have hb9 := hba.trans (hch9.below hba.size fun k hk => absurd hk.1 (Nat.lt_irrefl _))
    have hn9 : ∀ k, mine p9 c9 k → w.heap.size ≤ k := fun k hk => (hnew9 k hk).elim (fun h => absurd h.1 (Nat.lt_irrefl _)) fun h => Nat.le_trans hba.size h
    clear hr hch9 hnew9 hra
    go_enter Tryd.func50, Tryd.ntmps50
    go_wp2_with (refine wpList_app_run rfl (.tmp 5) (.tmp 6) 41 rfl _ _ rfl rfl hrun ?_)
    go_ret
    exact ⟨p9, c9, rfl, ho9, hb9, hn9⟩

end Go.Proofs.YtnbgdkdnlfomeaaDoor.M
