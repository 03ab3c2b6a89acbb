/-
  Own text: the contract of slices.DeleteFunc over members that the call owns.
-/
import Derived.Test.YtdjeafaaclhpkabDoorYSort
namespace Go.Proofs.YtdjeafaaclhpkabDoor.M
open Go.ChangeShapes Go.WideShapes Go.ChangeAt Go.RowKit

/-- As Asks, in every world in which all below B lies as in w. -/
def AsksB (F : FuncId) (caps : Array Value) (B : Nat) (w : World) (pr : Mb → Bool) : Prop :=
  ∀ (W : World) (m : Mb), Below B w W → Calls Tryd.prog F (#[.agg #[.int .i64 m.n, .int .i64 m.s, .bool m.f]] ++ caps) W fun e w' => e = .returned (.bool (pr m)) ∧ Below W.heap.size W w'

theorem AsksB.asks {F : FuncId} {caps : Array Value} {B : Nat} {w : World} {pr : Mb → Bool} (h : AsksB F caps B w pr) (hB : B ≤ w.heap.size) : Asks F caps w pr := fun W m hW => h W m (hW.mono hB)

theorem AsksB.later {F : FuncId} {caps : Array Value} {B : Nat} {w w' : World} {pr : Mb → Bool} (h : AsksB F caps B w pr) (hb : Below B w w') : AsksB F caps B w' pr :=
  fun W m hW => h W m (hb.trans hW)

theorem run_clearM {P : Program} (w : World) (t e ty : TypeId) (z : Value) (ht : P.underlying t = some (.slice e)) (hv : ∀ w, (zeroValue e).run P w = .ok z w) (h3 : z.cells.size = 3) (h1 : ∀ v ∈ z.cells, v.oneCell' = true) (b o n c : Nat) (hn : 0 < n) (hth : w.there b o (n * 3)) :
    ∃ zs : List Value, zs.length = n * 3 ∧ (Builtin.clear_ #[t] ty #[.slice (some ⟨b, o, none⟩) n c]).run P w = .ok (.tuple #[]) (w.setCells b o zs) := by
  refine ⟨(Builtin.zeroCells z.cells n).toList, by simp [Builtin.zeroCells, h3], ?_⟩
  have hl : (Builtin.zeroCells z.cells n).toList.length = n * 3 := by simp [Builtin.zeroCells, h3]
  have hst := run_storeCells_cells (P := P) b o (Builtin.zeroCells z.cells n).toList 0 w (by rw [hl]; intro j hj; simpa using (hth j hj).1) (by rw [hl]; intro j hj; simpa using (hth j hj).2) (by
    intro v hv'
    simp only [Builtin.zeroCells] at hv'
    simp at hv'
    obtain ⟨i, hi, rfl⟩ := hv'
    rcases Nat.lt_or_ge (i % z.cells.size) z.cells.size with h | h
    · rw [getElem!_pos z.cells _ h]
      exact h1 _ (Array.getElem_mem h)
    · exact absurd (Nat.mod_lt i (show 0 < z.cells.size by omega)) (Nat.not_lt.2 h))
  simp only [Nat.add_zero] at hst
  obtain ⟨m, rfl⟩ : ∃ m, n = m + 1 := ⟨n - 1, by omega⟩
  simp [Builtin.clear_, run_underlying ht, hv, hst]

theorem wpList_clear_run {P : Program} (w : World) {ops : Array Oper} {rest : List Oper} {o : Oper} {a : Act} {Q : Exit → Act → World → Prop} (hgd : o.guard = none) (s : Operand) (t : TypeId)
    (ho : o.op = .call { callee := .builtin .clear, args := #[s], argTypes := #[t] }) (v : Value) (hs : a.eval s = v) {v' : Value} {w' : World}
    (hr : (Builtin.clear_ #[t] o.type #[v]).run P w = .ok v' w') (h : wpList P ops Q rest (a.put o.dst v') w') : wpList P ops Q (o :: rest) a w := by
  refine wpList_plain hgd fun K hK => ?_
  unfold Oper.wp execOp
  simp only [ho, resolve, invoke, builtin, Sem.run_bind, Sem.run_pure, Result.andThen_ok, List.map_toArray, List.map_cons, List.map_nil, hs, hr]
  exact hK _ _ h

theorem ixM_filter (pr : Mb → Bool) : ∀ (l : List Mb) (k : Nat), ixM pr k l = -1 → l.filter (fun m => !pr m) = l
  | [], _, _ => rfl
  | m :: l, k, h => by
    unfold ixM at h
    split at h
    · omega
    · next hp =>
      rw [List.filter_cons_of_pos (by simpa using hp), ixM_filter pr l (k + 1) h]

theorem ixM_some (pr : Mb → Bool) : ∀ (l : List Mb) (k i : Nat), ixM pr k l = ((k + i : Nat) : Int) → i < l.length ∧ pr (l.getD i .z0) = true ∧ (l.take i).filter (fun m => !pr m) = l.take i
  | [], k, i, h => by unfold ixM at h; omega
  | m :: l, k, i, h => by
    unfold ixM at h
    split at h
    · next hp =>
      obtain rfl : i = 0 := by omega
      exact ⟨by simp, hp, rfl⟩
    · next hp =>
      cases i with
      | zero =>
        rcases ixM_bounds pr l (k + 1) with hb | hb
        · rw [hb] at h; omega
        · rw [h] at hb; omega
      | succ j =>
        obtain ⟨h1, h2, h3⟩ := ixM_some pr l (k + 1) j (by rw [h]; omega)
        refine ⟨by simpa using h1, by simpa using h2, ?_⟩
        rw [List.take_succ_cons, List.filter_cons_of_pos (by simpa using hp), h3]

theorem take_set_snoc {M : List Mb} {i : Nat} (h : i < M.length) (m : Mb) : (M.set i m).take (i + 1) = M.take i ++ [m] := by
  rw [List.take_succ_eq_append_getElem (by rw [List.length_set]; exact h)]
  simp [List.take_set_of_le]

theorem Row.front {w : World} {g N n : Nat} {M : List Mb} (h : Row w g N M) (hn : n ≤ M.length) : RdM w (some ⟨g, 0, none⟩) n N (M.take n) := by
  have hle := h.le
  refine RdM.of_flat (by rw [List.length_take]; omega) (by omega) fun j hj => ?_
  rw [Nat.zero_add, h.cells j (by omega)]
  have e : j = j / 3 * 3 + j % 3 := by omega
  have hm : j % 3 < 3 := Nat.mod_lt _ (by decide)
  rw [e]
  refine congrArg some (cellAt_shift ?_ hm)
  rw [List.getD_eq_getElem?_getD, List.getD_eq_getElem?_getD, List.getElem?_take, if_pos (by omega)]

end Go.Proofs.YtdjeafaaclhpkabDoor.M
