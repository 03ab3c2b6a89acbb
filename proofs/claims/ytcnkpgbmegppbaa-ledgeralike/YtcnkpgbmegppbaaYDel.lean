/-
  Own text: the contract of slices.DeleteFunc over members that the call owns.
-/
import Derived.Test.YtcnkpgbmegppbaaYSort
namespace Go.Proofs.Ytcnkpgbmegppbaa.M
open Go.ChangeShapes Go.WideShapes Go.ChangeAt Go.RowKit

/-- As Asks, in every world in which all below B lies as in w. -/
def AsksB (F : FuncId) (caps : Array Value) (B : Nat) (w : World) (pr : Mb → Bool) : Prop :=
  ∀ (W : World) (m : Mb), Below B w W → Calls Try.prog F (#[.agg #[.int .i64 m.n, .int .i64 m.s, .bool m.f]] ++ caps) W fun e w' => e = .returned (.bool (pr m)) ∧ Below W.heap.size W w'

theorem AsksB.asks {F : FuncId} {caps : Array Value} {B : Nat} {w : World} {pr : Mb → Bool} (h : AsksB F caps B w pr) (hB : B ≤ w.heap.size) : Asks F caps w pr := fun W m hW => h W m (hW.mono hB)

theorem AsksB.later {F : FuncId} {caps : Array Value} {B : Nat} {w w' : World} {pr : Mb → Bool} (h : AsksB F caps B w pr) (hb : Below B w w') : AsksB F caps B w' pr :=
  fun W m hW => h W m (hb.trans hW)

theorem run_clearM {P : Program} (w : World) (t e ty : TypeId) (z : Value) (ht : P.underlying t = some (.slice e)) (hv : ∀ w, (zeroValue e).run P w = .ok z w) (h3 : z.cells.size = 3) (h1 : ∀ v ∈ z.cells, v.oneCell' = true) (b o n c : Nat) (hn : 0 < n) (hth : w.there b o (n * 3)) :
    ∃ zs : List Value, zs.length = n * 3 ∧ (Builtin.clear_ #[t] ty #[.slice (some ⟨b, o, none⟩) n c]).run P w = .ok (.tuple #[]) (w.setCells b o zs) := by
  refine ⟨(Builtin.zeroCells z.cells n).toList, by simp [Builtin.zeroCells, h3], ?_⟩
  have hl : (Builtin.zeroCells z.cells n).toList.length = n * 3 := by simp [Builtin.zeroCells, h3]
  have hst := run_storeCells_cells (P := P) b o (Builtin.zeroCells z.cells n).toList 0 w (by rw [hl]; intro j hj; simpa using (hth j hj).1) (by rw [hl]; intro j hj; simpa using (hth j hj).2) (by
    intro v hv'
    simp only [Builtin.zeroCells] at hv'
    simp at hv'
    obtain ⟨i, hi, rfl⟩ := hv'
    rcases Nat.lt_or_ge (i % z.cells.size) z.cells.size with h | h
    · rw [getElem!_pos z.cells _ h]
      exact h1 _ (Array.getElem_mem h)
    · exact absurd (Nat.mod_lt i (show 0 < z.cells.size by omega)) (Nat.not_lt.2 h))
  simp only [Nat.add_zero] at hst
  obtain ⟨m, rfl⟩ : ∃ m, n = m + 1 := ⟨n - 1, by omega⟩
  simp [Builtin.clear_, run_underlying ht, hv, hst]

theorem wpList_clear_run {P : Program} (w : World) {ops : Array Oper} {rest : List Oper} {o : Oper} {a : Act} {Q : Exit → Act → World → Prop} (hgd : o.guard = none) (s : Operand) (t : TypeId)
    (ho : o.op = .call { callee := .builtin .clear, args := #[s], argTypes := #[t] }) (v : Value) (hs : a.eval s = v) {v' : Value} {w' : World}
    (hr : (Builtin.clear_ #[t] o.type #[v]).run P w = .ok v' w') (h : wpList P ops Q rest (a.put o.dst v') w') : wpList P ops Q (o :: rest) a w := by
  refine wpList_plain hgd fun K hK => ?_
  unfold Oper.wp execOp
  simp only [ho, resolve, invoke, builtin, Sem.run_bind, Sem.run_pure, Result.andThen_ok, List.map_toArray, List.map_cons, List.map_nil, hs, hr]
  exact hK _ _ h

theorem ixM_filter (pr : Mb → Bool) : ∀ (l : List Mb) (k : Nat), ixM pr k l = -1 → l.filter (fun m => !pr m) = l
  | [], _, _ => rfl
  | m :: l, k, h => by
    unfold ixM at h
    split at h
    · omega
    · next hp =>
      rw [List.filter_cons_of_pos (by simpa using hp), ixM_filter pr l (k + 1) h]

theorem ixM_some (pr : Mb → Bool) : ∀ (l : List Mb) (k i : Nat), ixM pr k l = ((k + i : Nat) : Int) → i < l.length ∧ pr (l.getD i .z0) = true ∧ (l.take i).filter (fun m => !pr m) = l.take i
  | [], k, i, h => by unfold ixM at h; omega
  | m :: l, k, i, h => by
    unfold ixM at h
    split at h
    · next hp =>
      obtain rfl : i = 0 := by omega
      exact ⟨by simp, hp, rfl⟩
    · next hp =>
      cases i with
      | zero =>
        rcases ixM_bounds pr l (k + 1) with hb | hb
        · rw [hb] at h; omega
        · rw [h] at hb; omega
      | succ j =>
        obtain ⟨h1, h2, h3⟩ := ixM_some pr l (k + 1) j (by rw [h]; omega)
        refine ⟨by simpa using h1, by simpa using h2, ?_⟩
        rw [List.take_succ_cons, List.filter_cons_of_pos (by simpa using hp), h3]

theorem take_set_snoc {M : List Mb} {i : Nat} (h : i < M.length) (m : Mb) : (M.set i m).take (i + 1) = M.take i ++ [m] := by
  rw [List.take_succ_eq_append_getElem (by rw [List.length_set]; exact h)]
  simp [List.take_set_of_le]

theorem Row.front {w : World} {g N n : Nat} {M : List Mb} (h : Row w g N M) (hn : n ≤ M.length) : RdM w (some ⟨g, 0, none⟩) n N (M.take n) := by
  have hle := h.le
  refine RdM.of_flat (by rw [List.length_take]; omega) (by omega) fun j hj => ?_
  rw [Nat.zero_add, h.cells j (by omega)]
  have e : j = j / 3 * 3 + j % 3 := by omega
  have hm : j % 3 < 3 := Nat.mod_lt _ (by decide)
  rw [e]
  refine congrArg some (cellAt_shift ?_ hm)
  rw [List.getD_eq_getElem?_getD, List.getD_eq_getElem?_getD, List.getElem?_take, if_pos (by omega)]

set_option maxRecDepth 20000 in
set_option maxHeartbeats 2000000 in
theorem deleteF_any (F : FuncId) (hcf : Cf F) (caps : Array Value) (pr : Mb → Bool) (w : World) (B g N : Nat) (L : List Mb) (hR : Row w g N L) (hB : B ≤ g) (hn : L.length ≤ 1099511627776) (hA : AsksB F caps B w pr) :
    Calls Try.prog 86 #[.slice (some ⟨g, 0, none⟩) L.length N, .func (.func F) #[] caps] w fun e w' => e = .returned (.slice (some ⟨g, 0, none⟩) (L.filter (fun m => !pr m)).length N) ∧ RdM w' (some ⟨g, 0, none⟩) (L.filter (fun m => !pr m)).length N (L.filter (fun m => !pr m)) ∧ Below B w w' := by
  have hlt := hR.lt
  have hI := indexF_any F hcf caps pr _ L.length N L w hR.rd (by omega) (hA.asks (by omega))
  have hbd := ixM_bounds pr L 0
  have hcf' : ∀ (args : Array Value) (w : World), (callFunc F args).run Try.prog w = .ok (.enter F args) w := hcf
  have hNl := hR.le
  clear hcf
  rcases hbd with hbd | ⟨hbd1, hbd2⟩
  · have HF : Hid (L.filter (fun m => !pr m) = L) := ixM_filter pr L 0 hbd
    rw [hbd] at hI
    clear hbd
    go_enter Try.func86, Try.ntmps86
    go_wp2_with fail
    refine hI.mono ?_
    rintro r w1 ⟨rfl, hb1⟩
    go_wp2_with fail
    go_ret
    rw [HF.out]
    exact ⟨rfl, (hR.up hb1).rd, hb1.mono (by omega)⟩
  · obtain ⟨i0, hi0⟩ := Int.eq_ofNat_of_zero_le (show 0 ≤ ixM pr 0 L by omega)
    obtain ⟨f1, f2, f3⟩ := ixM_some pr L 0 i0 (by rw [hi0]; omega)
    rw [hi0] at hI
    clear hbd1 hbd2 hi0
    have HF0 : Hid ((L.take (i0 + 1)).filter (fun m => !pr m) = L.take i0) := by
      unfold Hid
      rw [take_snoc_mb f1, List.filter_append, f3, List.filter_cons_of_neg (by rw [f2]; decide), List.filter_nil, List.append_nil]
    generalize hnn : L.length = n at *
    generalize hFF : L.filter (fun m => !pr m) = FF
    have HFF : Hid (L.filter (fun m => !pr m) = FF) := hFF
    clear hFF
    have hin1 : ((i0 : Int) == -1) = false := by simp
    go_enter Try.func86, Try.ntmps86
    go_wp2_with fail
    refine hI.mono ?_
    rintro r w1 ⟨rfl, hb1⟩
    have hR1 := hR.up hb1
    have hbB := hb1.mono (show B ≤ w.heap.size by omega)
    clear hI hR f2 f3
    go_wp2_with fail
    go_loopw [5, 6] (fun vi vj wr => ∃ (i j : Nat) (M : List Mb), i < j ∧ j ≤ n ∧ vi = .int .i64 i ∧ vj = .int .i64 j ∧ M.length = n ∧ Hid (M.take i = (L.take j).filter (fun m => !pr m) ∧ M.drop j = L.drop j) ∧ Row wr g N M ∧ Below B w wr) (fun _ vj _ => n - (intOf vj).toNat)
    case atStart => exact ⟨i0, i0 + 1, L, by omega, by omega, rfl, by first | rfl | go_num, hnn, ⟨HF0.out.symm, rfl⟩, hR1, hbB⟩
    case round =>
      clear hR1 hbB HF0 f1 hin1 hb1
      obtain ⟨i, j, M, hij, hjn, rfl, rfl, hM, HM, hR, hb⟩ := hrel
      by_cases h : j < n
      · obtain ⟨x1, x2, x3⟩ := hR.at (i := j) (by omega)
        have hji : (j : Int) < (n : Int) := by omega
        have hd := drop_mb (fs := M) (k := j) (by omega)
        have hdL := drop_mb (fs := L) (k := j) (by omega)
        have htL := take_snoc_mb (l := L) (k := j) (by omega)
        obtain ⟨hM1, hM2⟩ := HM.out
        rw [hd, hdL] at hM2
        obtain ⟨hq, hM3⟩ := List.cons.inj hM2
        rw [← hq] at htL
        have hA2 := fun W (hW : Below B w W) => hA W (M.getD j .z0) hW
        clear HM hd hdL hM2 hq
        generalize M.getD j .z0 = m at *
        have HT : Hid (M.take i = (L.take j).filter (fun m => !pr m) ∧ M.drop (j + 1) = L.drop (j + 1) ∧ L.take (j + 1) = L.take j ++ [m]) := ⟨hM1, hM3, htL⟩
        clear hM1 hM3 htL
        obtain ⟨mn, msi, mf⟩ := m
        dsimp only at x1 x2 x3 hA2
        have hgr := hR.lt
        have hba : Below B w (wr.alloc (.cells #[.int .i64 mn, .int .i64 msi, .bool mf] 48)) := hb.alloc (by omega) _
        have hRa := hR.up ((Below.refl wr.heap.size wr).alloc (Nat.le_refl _) (.cells #[.int .i64 mn, .int .i64 msi, .bool mf] 48))
        generalize hp1 : pr ⟨mn, msi, mf⟩ = b1 at *
        have HP : Hid (pr ⟨mn, msi, mf⟩ = b1) := hp1
        clear hp1
        go_wp2_with fail
        refine (hA2 _ hba).mono ?_
        rintro r w2 ⟨rfl, hb2⟩
        have d0 : w2.cell? ⟨wr.heap.size, 0, none⟩ = some (.int .i64 mn) := by rw [hb2.cell (p := ⟨wr.heap.size, 0, none⟩) (by simp)]; simp
        have d1 : w2.cell? ⟨wr.heap.size, 1, none⟩ = some (.int .i64 msi) := by rw [hb2.cell (p := ⟨wr.heap.size, 1, none⟩) (by simp)]; simp
        have d2 : w2.cell? ⟨wr.heap.size, 2, none⟩ = some (.bool mf) := by rw [hb2.cell (p := ⟨wr.heap.size, 2, none⟩) (by simp)]; simp
        have hR2 := hRa.up hb2
        have hbb := hba.trans (hb2.mono (show B ≤ _ from by simp; omega))
        clear x1 x2 x3 hA2 hba hRa hb2 hR hb
        cases b1 with
        | true =>
          have HN : Hid (M.take i = (L.take (j + 1)).filter (fun m => !pr m) ∧ M.drop (j + 1) = L.drop (j + 1)) := by
            obtain ⟨q1, q2, q3⟩ := HT.out
            refine ⟨?_, q2⟩
            rw [q1, q3, List.filter_append]
            simp [HP.out]
          go_wp2_with fail
          go_roundw
          case rel => exact ⟨i, j + 1, M, by omega, by omega, rfl, by go_num, hM, HN, hR2, hbb⟩
          case measure => simp [intOf]; omega
        | false =>
          have HN : Hid ((M.set i ⟨mn, msi, mf⟩).take (i + 1) = (L.take (j + 1)).filter (fun m => !pr m) ∧ (M.set i ⟨mn, msi, mf⟩).drop (j + 1) = L.drop (j + 1)) := by
            obtain ⟨q1, q2, q3⟩ := HT.out
            refine ⟨?_, ?_⟩
            · rw [take_set_snoc (by omega), q1, q3, List.filter_append]
              simp [HP.out]
            · rw [List.drop_set_of_lt (by omega), q2]
          have hii : (i : Int) < (n : Int) := by omega
          have g1 : w2.frozen? ⟨g, i * 3, none⟩ = false := (hR2.thereAt (i := i) (by omega) 0 (by decide)).2
          have g2 : w2.frozen? ⟨g, i * 3 + 1, none⟩ = false := (hR2.thereAt (i := i) (by omega) 1 (by decide)).2
          have g3 : w2.frozen? ⟨g, i * 3 + 2, none⟩ = false := (hR2.thereAt (i := i) (by omega) 2 (by decide)).2
          obtain ⟨y1, y2, y3⟩ := hR2.at (i := i) (by omega)
          have hR3 : Row (((w2.setCell ⟨g, i * 3, none⟩ (.int .i64 mn)).setCell ⟨g, i * 3 + 1, none⟩ (.int .i64 msi)).setCell ⟨g, i * 3 + 2, none⟩ (.bool mf)) g N (M.set i ⟨mn, msi, mf⟩) := hR2.set (i := i) (by omega) ⟨mn, msi, mf⟩
          have hb3 : Below B w (((w2.setCell ⟨g, i * 3, none⟩ (.int .i64 mn)).setCell ⟨g, i * 3 + 1, none⟩ (.int .i64 msi)).setCell ⟨g, i * 3 + 2, none⟩ (.bool mf)) := below_setC hB (Mb.cs ⟨mn, msi, mf⟩) (i * 3) _ hbb
          go_wp2_with fail
          go_roundw
          case rel => exact ⟨i + 1, j + 1, M.set i ⟨mn, msi, mf⟩, by omega, by omega, by go_num, by go_num, by rw [List.length_set]; exact hM, HN, hR3, hb3⟩
          case measure => simp [intOf]; omega
      · obtain rfl : j = n := by omega
        have hji : ¬ (j : Int) < (j : Int) := by omega
        have hzv : ∀ w, (zeroValue 48).run Try.prog w = .ok (.agg #[.int .i64 0, .int .i64 0, .bool false]) w := Try.zeroValue48
        have hth : wr.there g (i * 3) ((j - i) * 3) := fun k hk => by
          have := hR.there (i * 3 + k) (by omega)
          rw [Nat.zero_add] at this
          exact this
        have hcl := fun c ty => run_clearM (P := Try.prog) wr 34 48 ty _ Try.underlying34 hzv rfl (by decide) g (i * 3) (j - i) c (by omega) hth
        have HN : Hid (M.take i = FF) := by
          obtain ⟨q1, _⟩ := HM.out
          unfold Hid
          rw [q1, List.take_of_length_le (by omega), HFF.out]
        have hFl : FF.length = i := by rw [← HN.out, List.length_take]; omega
        clear HM
        have hij2 : (i : Int) ≤ (j : Int) := by omega
        obtain ⟨zs, hzl, hclr⟩ := hcl (N - i) 0
        have hrd : RdM (wr.setCells g (i * 3) zs) (some ⟨g, 0, none⟩) i N (M.take i) := by
          refine RdM.of_flat (by rw [List.length_take]; omega) (by omega) fun k hk => ?_
          rw [Nat.zero_add, World.cell?_setCells_out g _ _ wr ⟨g, k, none⟩ (fun _ _ => Or.inl hk)]
          obtain ⟨b', o', e', hc'⟩ := (hR.front (n := i) (by omega)).flat (by omega)
          cases e'
          have := hc' k hk
          rwa [Nat.zero_add] at this
        have hbz : Below B w (wr.setCells g (i * 3) zs) := below_setC hB zs (i * 3) _ hb
        clear hcl hth hzv hR hzl
        go_wp2_with fail
        go_ret
        exact ⟨rfl, by rw [← HN.out]; exact hrd, hbz⟩

end Go.Proofs.Ytcnkpgbmegppbaa.M
