/-
  Own text: the contract of slices.Insert of one member into members that the call owns.
-/
import Derived.Test.YtphdbpljgilcgaaDoorSRow
import Derived.Lib.Overlaps
import Derived.Lib.AppendZerosOnto
import Derived.Deep.RegionLaw
import Derived.Laws.Externs
namespace Go.Proofs.YtphdbpljgilcgaaDoor.M
open Go.ChangeShapes Go.WideShapes Go.ChangeAt Go.RowKit

theorem run_copy3 {P : Program} (w : World) (dT sT ty elem : TypeId) (b o dLen dCap : Nat) (a : Addr) (sLen sCap : Nat) (cs : List Value)
    (hu : P.underlying dT = some (.slice elem)) (hs : (P.info? elem).map (·.size) = some 9) (hn : cs.length = Nat.min sLen dLen * 9)
    (hsrc : ∀ j v, cs[j]? = some v → w.cell? (a.add j) = some v) (hth : w.there b o cs.length) (h1 : ∀ v ∈ cs, v.oneCell' = true) :
    (Builtin.copy_ #[dT, sT] ty #[.slice (some ⟨b, o, none⟩) dLen dCap, .slice (some a) sLen sCap]).run P w = .ok (goInt (Nat.min sLen dLen)) (w.setCells b o cs) := by
  have hl := run_loadCells_list (P := P) w a cs hsrc
  have hst := run_storeCells_cells (P := P) b o cs 0 w (by intro j hj; simpa using (hth j hj).1) (by intro j hj; simpa using (hth j hj).2) h1
  cases hq : P.info? elem with
  | none => simp [hq] at hs
  | some i =>
    have hi : i.size = 9 := by simpa [hq] using hs
    simp [Builtin.copy_, run_underlying hu, Builtin.lenOf, Builtin.firstCells, sizeOf, typeInfo, hq, hi, ← hn, hl, hst]

theorem wpList_copy_run {P : Program} (w : World) {ops : Array Oper} {rest : List Oper} {o : Oper} {a : Act} {Q : Exit → Act → World → Prop} (hgd : o.guard = none) (d s : Operand) (t t' : TypeId)
    (ho : o.op = .call { callee := .builtin .copy, args := #[d, s], argTypes := #[t, t'] }) (v u : Value) (hd : a.eval d = v) (hs : a.eval s = u) {v' : Value} {w' : World}
    (hr : (Builtin.copy_ #[t, t'] o.type #[v, u]).run P w = .ok v' w') (h : wpList P ops Q rest (a.put o.dst v') w') : wpList P ops Q (o :: rest) a w := by
  refine wpList_plain hgd fun K hK => ?_
  unfold Oper.wp execOp
  simp only [ho, resolve, invoke, builtin, Sem.run_bind, Sem.run_pure, Result.andThen_ok, List.map_toArray, List.map_cons, List.map_nil, hd, hs, hr]
  exact hK _ _ h

theorem step_copy_run {P : Program} {ops : Array Oper} {o : Oper} {a : Act} {w : World} {K : Act → World → Prop} {Q : Exit → Act → World → Prop} {E : Prop}
    (hg : o.guard = none) (d x : Operand) (dT sT : TypeId) (hop : o.op = Op.call { callee := Callee.builtin Builtin.copy, args := #[d, x], argTypes := #[dT, sT] })
    (v u : Value) (hd : a.eval d = v) (hx : a.eval x = u) {v' : Value} {w' : World} (hr : (Builtin.copy_ #[dT, sT] o.type #[v, u]).run P w = .ok v' w') (hK : K (a.put o.dst v') w') :
    if Region.wanted o (yielded ops a.tmps) = true then Oper.wp P o a w K Q else E := by
  have hw : Region.wanted o (yielded ops a.tmps) = true := by simp [Region.wanted, hg]
  rw [if_pos hw]
  unfold Oper.wp
  simp [execOp, hop, resolve, invoke, builtin, hd, hx, hr, Result.andThen]
  exact hK

/-- Members with one more at a place. -/
def insM (L : List Sn) (i : Nat) (m : Sn) : List Sn := L.take i ++ m :: L.drop i

theorem insM_len (L : List Sn) (i : Nat) (m : Sn) : (insM L i m).length = L.length + 1 := by
  unfold insM
  rw [List.length_append, List.length_cons, List.length_take, List.length_drop]
  omega

theorem insM_lt {L : List Sn} {i k : Nat} {m : Sn} (hi : i ≤ L.length) (h : k < i) : (insM L i m).getD k .z0 = L.getD k .z0 := by
  unfold insM
  rw [List.getD_eq_getElem?_getD, List.getD_eq_getElem?_getD, List.getElem?_append_left (by rw [List.length_take]; omega), List.getElem?_take, if_pos h]

theorem insM_eq {L : List Sn} {i : Nat} {m : Sn} (hi : i ≤ L.length) : (insM L i m).getD i .z0 = m := by
  unfold insM
  rw [List.getD_eq_getElem?_getD, List.getElem?_append_right (by rw [List.length_take]; omega), List.length_take, show i - min i L.length = 0 by omega]
  rfl

theorem insM_gt {L : List Sn} {i k : Nat} {m : Sn} (hi : i ≤ L.length) (h : i ≤ k) : (insM L i m).getD (k + 1) .z0 = L.getD k .z0 := by
  unfold insM
  rw [List.getD_eq_getElem?_getD, List.getD_eq_getElem?_getD, List.getElem?_append_right (by rw [List.length_take]; omega), List.length_take, show k + 1 - min i L.length = (k - i) + 1 by omega, List.getElem?_cons_succ, List.getElem?_drop, show i + (k - i) = k by omega]

theorem cs_at (m : Sn) (L : List Sn) (i : Nat) (h : L.getD i .z0 = m) {r : Nat} (hr : r < 9) : m.cs[r]? = some (cellAt L (i * 9 + r)) := by
  rw [cellAt_r L i hr, h, cs_get m hr]

theorem ins_rd {W : World} {h i n c : Nat} {L : List Sn} {m : Sn} (hl : L.length = n) (hi : i ≤ n) (hc : n + 1 ≤ c)
    (c1 : ∀ j, j < i * 9 → W.cell? ⟨h, j, none⟩ = some (cellAt L j)) (c2 : ∀ r, r < 9 → W.cell? ⟨h, i * 9 + r, none⟩ = m.cs[r]?) (c3 : ∀ j, j < (n - i) * 9 → W.cell? ⟨h, i * 9 + 9 + j, none⟩ = some (cellAt L (i * 9 + j))) :
    RdM W (some ⟨h, 0, none⟩) (n + 1) c (insM L i m) := by
  refine RdM.of_flat (by rw [insM_len, hl]) hc fun j hj => ?_
  rw [Nat.zero_add]
  have e : j = j / 9 * 9 + j % 9 := by omega
  have hm : j % 9 < 9 := Nat.mod_lt _ (by decide)
  rcases Nat.lt_or_ge (j / 9) i with h1 | h1
  · rw [c1 j (by omega), e]
    exact congrArg some (cellAt_shift (insM_lt (by omega) h1).symm hm)
  · rcases Nat.eq_or_lt_of_le h1 with h2 | h2
    · rw [e, ← h2, c2 _ hm, cs_at m (insM L i m) i (insM_eq (by omega)) hm]
    · have := c3 (j - (i * 9 + 9)) (by omega)
      rw [show i * 9 + 9 + (j - (i * 9 + 9)) = j by omega, show i * 9 + (j - (i * 9 + 9)) = (j / 9 - 1) * 9 + j % 9 by omega] at this
      rw [this, e, show (j / 9 * 9 + j % 9) / 9 = j / 9 by omega, show (j / 9 * 9 + j % 9) % 9 = j % 9 by omega]
      refine congrArg some (cellAt_shift ?_ hm)
      have := insM_gt (L := L) (i := i) (k := j / 9 - 1) (m := m) (by omega) (by omega)
      rw [show j / 9 - 1 + 1 = j / 9 by omega] at this
      exact this.symm

/-- The cells from the i-th member on. -/
def tailC (L : List Sn) (i n : Nat) : List Value := (cellsM L n).drop (i * 9)

theorem tailC_len (L : List Sn) (i n : Nat) : (tailC L i n).length = (n - i) * 9 := by
  unfold tailC cellsM
  simp
  omega

theorem tailC_get {L : List Sn} {i n j : Nat} (h : j < (n - i) * 9) : (tailC L i n)[j]? = some (cellAt L (i * 9 + j)) := by
  unfold tailC
  rw [List.getElem?_drop, cellsM_get L n (by omega)]

theorem cellsM_app (L : List Sn) (m : Sn) (n : Nat) (h : L.length = n) : cellsM (insM L n m) (n + 1) = cellsM L n ++ m.cs := by
  apply List.ext_getElem?
  intro j
  rcases Nat.lt_or_ge j (n * 9) with h1 | h1
  · rw [cellsM_get _ _ (by omega), List.getElem?_append_left (by simp [cellsM]; omega), cellsM_get _ _ h1]
    have e : j = j / 9 * 9 + j % 9 := by omega
    rw [e]
    exact congrArg some (cellAt_shift (insM_lt (by omega) (by omega)) (Nat.mod_lt _ (by decide)))
  · rw [List.getElem?_append_right (by simp [cellsM]; omega)]
    have hl : (cellsM L n).length = n * 9 := by simp [cellsM]
    rw [hl]
    rcases Nat.lt_or_ge j (n * 9 + 9) with h2 | h2
    · obtain ⟨r, rfl⟩ : ∃ r, j = n * 9 + r := ⟨j - n * 9, by omega⟩
      rw [cellsM_get _ _ (by omega), show n * 9 + r - n * 9 = r by omega, cs_at m (insM L n m) n (insM_eq (by omega)) (by omega)]
    · rw [List.getElem?_eq_none (by simp [cellsM]; omega), List.getElem?_eq_none (by simp [Sn.cs]; omega)]

set_option maxRecDepth 20000 in
set_option maxHeartbeats 2000000 in
theorem insert_end (w : World) (B g N vb : Nat) (L : List Sn) (m : Sn) (n : Nat) (hl : L.length = n) (ho : w.ownsRow B 36 9 (.slice (some ⟨g, 0, none⟩) n N) n (cellsM L n)) (hB : B ≤ w.heap.size) (hn : n ≤ 1099511627776)
    (hv : w.heap[vb]? = some (.cells m.cs.toArray 36)) :
    Calls Tryd.prog 24 #[.slice (some ⟨g, 0, none⟩) n N, .int .i64 n, .slice (some ⟨vb, 0, none⟩) 1 1] w fun e w' => ∃ b o c, e = .returned (.slice (some ⟨b, o, none⟩) (n + 1) c) ∧ B ≤ b ∧ RdM w' (some ⟨b, o, none⟩) (n + 1) c (insM L n m) ∧ Below B w w' := by
  obtain ⟨i0, hi0, hz0, hz1, hz2⟩ := info_parts infoM
  have hnN : n ≤ N := by
    rcases ho.2 with ⟨h, _⟩ | ⟨g', cap, cur, h, _, _, h1, _⟩
    · cases h
    · cases h; exact h1
  have hnews : ∀ j u, (m.cs)[j]? = some u → w.cell? ((⟨vb, 0, none⟩ : Addr).add j) = some u := fun j u hj => by
    rw [Addr.add_lit, Nat.zero_add]
    unfold World.cell?
    dsimp only
    rw [hv]
    simpa using hj
  by_cases hNn : N = n
  · replace hNn := hNn.symm
    subst hNn
    go_enter Tryd.func24, Tryd.ntmps24
    go_wp2_with (at_builtin; refine wpList_append_own _ rfl (.tmp 23) (.tmp 24) 23 rfl B 36 i0 (.agg #[.int .u8 0, .int .u8 0, .int .u8 0, .int .u8 0, .int .u8 0, .int .u8 0, .int .u8 0, .int .u8 0, .int .i64 0]) 9 16 Tryd.underlying23 hi0 hz0 hz1 hz2 rfl (by decide) _ n (cellsM L n) rfl ho ⟨vb, 0, none⟩ 1 1 m.cs rfl rfl hnews (cs_one m) ?c1 ?c2 hB ?_)
    case c1 => unfold maxLen; omega
    case c2 => omega
    intro v' w' h1 h2 _
    rw [← cellsM_app L m n hl] at h1
    obtain ⟨g', cap, rfl, hg', hR⟩ := Row.of_owns h1 (by rw [insM_len, hl]) (by omega)
    go_wp2_with fail
    go_ret
    refine ⟨_, _, _, rfl, hg', by have := hR.rd; rwa [insM_len, hl] at this, (Below.refl _ _).grown h2 hB fun k hk => ?_⟩
    cases hk
    rcases ho.2 with ⟨h, _⟩ | ⟨g2, cap2, cur2, h, h3, _⟩
    · cases h
    · cases h; exact h3
  · have hNn2 : ¬ n = N := fun h => hNn h.symm
    go_enter Tryd.func24, Tryd.ntmps24
    go_wp2_with (at_builtin; refine wpList_append_own _ rfl (.tmp 23) (.tmp 24) 23 rfl B 36 i0 (.agg #[.int .u8 0, .int .u8 0, .int .u8 0, .int .u8 0, .int .u8 0, .int .u8 0, .int .u8 0, .int .u8 0, .int .i64 0]) 9 16 Tryd.underlying23 hi0 hz0 hz1 hz2 rfl (by decide) _ n (cellsM L n) rfl ho ⟨vb, 0, none⟩ 1 1 m.cs rfl rfl hnews (cs_one m) ?c3 ?c4 hB ?_)
    case c3 => unfold maxLen; omega
    case c4 => omega
    intro v' w' h1 h2 _
    rw [← cellsM_app L m n hl] at h1
    obtain ⟨g', cap, rfl, hg', hR⟩ := Row.of_owns h1 (by rw [insM_len, hl]) (by omega)
    go_wp2_with fail
    go_ret
    refine ⟨_, _, _, rfl, hg', by have := hR.rd; rwa [insM_len, hl] at this, (Below.refl _ _).grown h2 hB fun k hk => ?_⟩
    cases hk
    rcases ho.2 with ⟨h, _⟩ | ⟨g2, cap2, cur2, h, h3, _⟩
    · cases h
    · cases h; exact h3

end Go.Proofs.YtphdbpljgilcgaaDoor.M
