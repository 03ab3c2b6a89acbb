/-
  Own text: one version more: the contract of See.
-/
import Derived.Test.YtphdbpljgilcgaaDoorSFind
namespace Go.Proofs.YtphdbpljgilcgaaDoor.M
open Go.ChangeShapes Go.WideShapes Go.ChangeAt Go.RowKit Go.Proofs
set_option linter.unusedSimpArgs false

theorem right_six {L : List Sn} (h : rightL L = 0) : L.length ≤ 6 := by
  unfold rightL at h
  split at h
  · cases h
  · omega

theorem right_code (L : List Sn) : rightL L = 0 ∨ rightL L = 7 ∨ rightL L = 100 := by
  unfold rightL
  split
  · exact Or.inr (Or.inl rfl)
  · split
    · exact Or.inl rfl
    · exact Or.inr (Or.inr rfl)

/-- What See tells. -/
def seeL (L : List Sn) (q : Nat) (v : Int) : List Sn × Int :=
  if rightL L = 0 then
    if (okK q && (decide (0 ≤ v) && decide (v ≤ 1099511627776))) = true then
      if 6 < (ins L q v).length then ([], 7) else (ins L q v, 0)
    else ([], 100)
  else ([], rightL L)

/-- append(s, x) of one, s without room. -/
theorem run_app1 {P : Program} (w : World) (t ty e : TypeId) (i : TypeInfo) (z : Value) (by_ : Nat) (ht : P.underlying t = some (.slice e)) (hi : P.info? e = some i) (hz : i.zero = some z) (hsize : i.size = 9) (hby : i.bytes = by_) (hzs : z.cells.size = 9)
    (p : Option Addr) (g d : Nat) (m : Sn) (hm : w.heap[g]? = some (.cells m.cs.toArray e)) (hb : by_ ≤ 140737488355328) :
    ∃ v w', (Builtin.append_ #[t, t] ty #[.slice p 0 0, .slice (some ⟨g, 0, none⟩) 1 d]).run P w = .ok v w' ∧ w'.ownsRow w.heap.size e 9 v 1 (cellsM [m] 1) ∧ Below w.heap.size w w' := by
  have hcs : cellsM [m] 1 = m.cs := by
    apply List.ext_getElem?
    intro j
    rcases Nat.lt_or_ge j 9 with h | h
    · rw [cellsM_get _ _ (by omega), cs_get m h]
      have := cellAt_r [m] 0 h
      rw [Nat.zero_mul, Nat.zero_add] at this
      rw [this]
      rfl
    · rw [List.getElem?_eq_none (by rw [cellsM_len]; omega), List.getElem?_eq_none (by rw [cs_len]; omega)]
  have hn : ∀ j u, (m.cs)[j]? = some u → w.cell? ((⟨g, 0, none⟩ : Addr).add j) = some u := fun j u hj => by
    rw [Addr.add_lit, Nat.zero_add]
    unfold World.cell?
    dsimp only
    rw [hm]
    simpa using hj
  rw [hcs]
  cases p with
  | none =>
    obtain ⟨v', w', h1, h2, h3, _⟩ := run_append_own (P := P) w w.heap.size t ty e i z 9 by_ ht hi hz hsize hby hzs (by decide) _ 0 [] (World.ownsRow_nil _ _ _ _) ⟨g, 0, none⟩ 1 d m.cs rfl hn (cs_one m) (by unfold maxLen; omega) (by omega) (Nat.le_refl _)
    rw [Nat.zero_add, List.nil_append] at h2
    exact ⟨v', w', h1, h2, (Below.refl _ _).grown h3 (Nat.le_refl _) fun g hg => by cases hg⟩
  | some a =>
    obtain ⟨v', w', h1, h2, h3⟩ := run_append_arg_grows (P := P) w t ty e i z 9 by_ ht hi hz hsize hby hzs (by decide) a 0 0 [] (by simp) (by simp) ⟨g, 0, none⟩ 1 d m.cs rfl hn (by omega) (by unfold maxLen; omega) (by omega)
    rw [Nat.zero_add, List.nil_append] at h2
    exact ⟨v', w', h1, h2, (Below.refl _ _).grown h3 (Nat.le_refl _) fun g hg => by cases hg⟩

theorem wpList_append_at {P : Program} (w : World) {ops : Array Oper} {rest : List Oper} {o : Oper} {a : Act} {Q : Exit → Act → World → Prop} (hgd : o.guard = none) (d s : Operand) (t t' : TypeId)
    (ho : o.op = .call { callee := .builtin .append, args := #[d, s], argTypes := #[t, t'] }) (v u : Value) (hd : a.eval d = v) (hs : a.eval s = u) {v' : Value} {w' : World}
    (hr : (Builtin.append_ #[t, t'] o.type #[v, u]).run P w = .ok v' w') (h : wpList P ops Q rest (a.put o.dst v') w') : wpList P ops Q (o :: rest) a w := by
  refine wpList_plain hgd fun K hK => ?_
  unfold Oper.wp execOp
  simp only [ho, resolve, invoke, builtin, Sem.run_bind, Sem.run_pure, Result.andThen_ok, List.map_toArray, List.map_cons, List.map_nil, hd, hs, hr]
  exact hK _ _ h

set_option maxRecDepth 20000 in
set_option maxHeartbeats 2000000 in
theorem insert_zero (w : World) (p : Option Addr) (vb : Nat) (m : Sn) (hv : w.heap[vb]? = some (.cells m.cs.toArray 36)) :
    Calls Tryd.prog 24 #[.slice p 0 0, .int .i64 0, .slice (some ⟨vb, 0, none⟩) 1 1] w fun e w' => ∃ b o c, e = .returned (.slice (some ⟨b, o, none⟩) 1 c) ∧ RdM w' (some ⟨b, o, none⟩) 1 c [m] ∧ Below w.heap.size w w' := by
  obtain ⟨i0, hi0, hz0, hz1, hz2⟩ := info_parts infoM
  obtain ⟨v', w', hA⟩ := run_app1 (P := Tryd.prog) w 23 23 36 i0 _ 16 Tryd.underlying23 hi0 hz0 hz1 hz2 rfl p vb 1 m hv (by omega)
  obtain ⟨h1, h2, h3⟩ := hA
  clear hv
  cases p with
  | none =>
    go_enter Tryd.func24, Tryd.ntmps24
    go_wp2_with (refine wpList_append_at _ rfl (.tmp 23) (.tmp 24) 23 23 rfl _ _ rfl rfl h1 ?_)
    obtain ⟨g', cap, rfl, hg', hR⟩ := Row.of_owns h2 rfl (by decide)
    go_wp2_with fail
    go_ret
    exact ⟨_, _, _, rfl, hR.rd, h3⟩
  | some ad =>
    obtain ⟨ab, ao, asp⟩ := ad
    go_enter Tryd.func24, Tryd.ntmps24
    go_wp2_with (refine wpList_append_at _ rfl (.tmp 23) (.tmp 24) 23 23 rfl _ _ rfl rfl h1 ?_)
    obtain ⟨g', cap, rfl, hg', hR⟩ := Row.of_owns h2 rfl (by decide)
    go_wp2_with fail
    go_ret
    exact ⟨_, _, _, rfl, hR.rd, h3⟩

end Go.Proofs.YtphdbpljgilcgaaDoor.M
