/-
  Own text: a slice of fields that its owner alone writes; the reference's way to unpack, in plain words.
-/
import Derived.Test.YtddekakihandeaaDoorKUn
import Derived.Test.YtddekakihandeaaDoorKRp
import Derived.Test.YtddekakihandeaaDoorKSgn
import Derived.Test.YtddekakihandeaaDoorDet2
namespace Go.Proofs.YtddekakihandeaaDoor.M
open Go.ChangeShapes Go.WideShapes Go.ChangeAt Go.RowKit

/-- A slice that holds the first k of these fields, its row not below B. -/
def OwF (w : World) (B : Nat) (v : Value) (k : Nat) (L : List Fld) : Prop := w.ownsRow B 26 3 v k (cellsF L k)

theorem OwF.nil (w : World) (B : Nat) (L : List Fld) : OwF w B (.slice none 0 0) 0 L := ⟨by simp [cellsF], Or.inl ⟨rfl, rfl⟩⟩

theorem OwF.below {w w' : World} {B k : Nat} {v : Value} {L : List Fld} (h : OwF w B v k L) (hb : Below w.heap.size w w') : OwF w' B v k L := by
  refine ⟨h.1, ?_⟩
  rcases h.2 with h2 | ⟨g, cap, cur, hv, hg, hh, r⟩
  · exact Or.inl h2
  · exact Or.inr ⟨g, cap, cur, hv, hg, by rw [hb.block g (Array.getElem?_eq_some_iff.1 hh).1]; exact hh, r⟩

theorem OwF.rd {w : World} {B k : Nat} {v : Value} {L : List Fld} (h : OwF w B v k L) (hl : L.length = k) : ∃ q c, v = .slice q k c ∧ RdF w q k c L := by
  have h' := h
  rcases h.2 with ⟨rfl, rfl⟩ | ⟨g, cap, cur, rfl, hg, hh, hc, _⟩
  · exact ⟨none, 0, rfl, hl, Nat.le_refl _, fun _ => rfl, fun h => absurd h (Nat.lt_irrefl _)⟩
  · refine ⟨_, _, rfl, RdF.of_flat hl hc fun j hj => ?_⟩
    have h4 := World.ownsRow.cells h' (g := g) rfl j (cellAt L j) (cellsF_get L k hj)
    rw [Addr.add_lit] at h4
    exact h4

theorem cellsF_snoc (L : List Fld) (k : Nat) : cellsF L (k + 1) = cellsF L k ++ [.int .i64 (L.getD k .z0).b, .int .i64 (L.getD k .z0).v, .bool (L.getD k .z0).s] := by
  unfold cellsF
  rw [show (k + 1) * 3 = k * 3 + 1 + 1 + 1 by omega, List.range_succ, List.range_succ, List.range_succ]
  simp only [List.map_append, List.map_cons, List.map_nil, List.append_assoc, List.cons_append, List.nil_append]
  rw [cellAt_0, cellAt_1, show k * 3 + 1 + 1 = k * 3 + 2 by omega, cellAt_2]

theorem wpList_appOwF {P : Program} (w : World) {ops : Array Oper} {rest : List Oper} {o : Oper} {a : Act} {Q : Exit → Act → World → Prop} (hgd : o.guard = none) (s x : Operand) (t : TypeId)
    (hop : o.op = .call { callee := .builtin .append, args := #[s, x], argTypes := #[t, t] })
    (i : TypeInfo) (z : Value) (by_ : Nat) (ht : P.underlying t = some (.slice 26)) (hi : P.info? 26 = some i) (hz : i.zero = some z) (hsize : i.size = 3) (hby : i.bytes = by_) (hzs : z.cells.size = 3)
    (B : Nat) (v : Value) (k : Nat) (L : List Fld) (hs : a.eval s = v) (ho : OwF w B v k L) (g d : Nat) (f : Fld) (hf : f = L.getD k .z0) (hx : a.eval x = .slice (some ⟨g, 0, none⟩) 1 d)
    (c0 : w.cell? ⟨g, 0, none⟩ = some (.int .i64 f.b)) (c1 : w.cell? ⟨g, 1, none⟩ = some (.int .i64 f.v)) (c2 : w.cell? ⟨g, 2, none⟩ = some (.bool f.s)) (hb : (k + 1) * by_ ≤ 140737488355328) (h63 : k + 1 ≤ maxLen) (hB : B ≤ w.heap.size)
    (h : ∀ v' w', OwF w' B v' (k + 1) L → Below B w w' → wpList P ops Q rest (a.put o.dst v') w') : wpList P ops Q (o :: rest) a w := by
  subst hf
  refine wpList_append_own w hgd s x t hop B 26 i z 3 by_ ht hi hz hsize hby hzs (by decide) v k (cellsF L k) hs ho ⟨g, 0, none⟩ 1 d [.int .i64 (L.getD k .z0).b, .int .i64 (L.getD k .z0).v, .bool (L.getD k .z0).s] hx rfl ?_ ?_ h63 hb hB ?_
  · intro j u hj
    rw [Addr.add_lit, Nat.zero_add]
    match j, hj with
    | 0, hj => cases hj; exact c0
    | 1, hj => cases hj; exact c1
    | 2, hj => cases hj; exact c2
  · intro u hu
    simp only [List.mem_cons, List.not_mem_nil, or_false] at hu
    rcases hu with rfl | rfl | rfl <;> rfl
  · intro v' w' h1 h2 _
    refine h v' w' ?_ ?_
    · unfold OwF
      rw [cellsF_snoc]
      exact h1
    · refine (Below.refl B w).grown h2 hB fun r hr => ?_
      rcases ho.2 with ⟨rfl, _⟩ | ⟨g', cap, cur, rfl, hg, _⟩
      · cases hr
      · cases hr; exact hg

theorem Arr.range {w : World} {g : Nat} {bs : List Bool} (h : Arr w g bs) : w.rangeAt g 0 (bs.map Value.bool) := by
  intro j v hj
  have hl : j < bs.length := by
    rcases Nat.lt_or_ge j bs.length with h | h
    · exact h
    · rw [List.getElem?_eq_none (by simpa using h)] at hj; cases hj
  rw [Nat.zero_add, h.cell hl, ← hj, List.getElem?_map, List.getD_eq_getElem?_getD, List.getElem?_eq_getElem hl]
  rfl

theorem wp_store_cell {P : Program} {op : Oper} {a : Act} {w : World} {K : Act → World → Prop} {Q : Exit → Act → World → Prop} (ty : TypeId) (x y : Operand) (ho : op.op = .store ty x y) (b o : Nat) (k : IntKind) (v : Int) (u : Value)
    (hx : a.eval x = .pointer (some ⟨b, o, none⟩)) (hy : a.eval y = .int k v) (hsz : (P.info? ty).map (·.size) = some 1) (hc : w.cell? ⟨b, o, none⟩ = some u) (hf : w.frozen? ⟨b, o, none⟩ = false)
    (h : K (a.put op.dst undef) (w.setCell ⟨b, o, none⟩ (.int k v))) : op.wp P a w K Q := by
  have hrun : (storeVar ty ⟨b, o, none⟩ (.int k v)).run P w = .ok () (w.setCell ⟨b, o, none⟩ (.int k v)) := by
    have := run_storeCells_cells (P := P) b o [.int k v] 0 w (fun j hj => by
        match j, hj with
        | 0, _ => rw [Nat.add_zero, hc]; rfl) (fun j hj => by
        match j, hj with
        | 0, _ => exact hf) (fun u hu => by rw [List.mem_singleton.1 hu]; rfl)
    cases hq : P.info? ty with
    | none => simp [hq] at hsz
    | some i =>
      have hs : i.size = 1 := by simpa [hq] using hsz
      simp only [Nat.add_zero] at this
      simp [storeVar, sizeOf, typeInfo, hq, Value.cells, hs, this, World.setCells]
  unfold Oper.wp execOp
  simp only [ho, hx, hy, Instr.storeAt, Instr.sureAddr, Sem.run_bind, Sem.run_pure, Result.andThen_ok, hrun]
  exact h

theorem size64 : (Tryd.prog.info? 2).map (·.size) = some 1 := by kernel_rfl

/-- What fits, of what was unpacked. -/
theorem fit_un (y B : Nat) (h2 : B ≤ 64) : fitB ⟨(B : Int), wrap64 ((y % 2 ^ B : Nat) : Int), false⟩ = decide (0 ≤ wrap64 ((y % 2 ^ B : Nat) : Int)) := by
  have hlt : y % 2 ^ B < 2 ^ B := Nat.mod_lt _ (Nat.pow_pos (by decide))
  have hpb := pow_le64 h2
  unfold fitB
  rw [if_neg Bool.false_ne_true]
  dsimp only
  rw [Int.toNat_natCast, decide_eq_decide]
  have hw : wrap64 ((y % 2 ^ B : Nat) : Int) ≤ ((y % 2 ^ B : Nat) : Int) := by
    unfold wrap64
    generalize y % 2 ^ B = m at *
    omega
  omega

theorem fit_sg (y B : Nat) (h1 : 1 ≤ B) : fitB ⟨(B : Int), sgn y B, true⟩ = true := by
  have hlt : y % 2 ^ B < 2 ^ B := Nat.mod_lt _ (Nat.pow_pos (by decide))
  have hh := pow_half h1
  unfold fitB
  rw [if_pos rfl]
  dsimp only
  rw [Int.toNat_natCast, decide_eq_true_iff]
  unfold sgn
  generalize y % 2 ^ B = m at *
  generalize 2 ^ (B - 1) = H at *
  generalize 2 ^ B = Q at *
  split <;> omega

theorem bit_step (y j : Nat) : (bitL (y % 2 ^ j)).set j (y.testBit j) = bitL (y % 2 ^ (j + 1)) := by
  have h := @bit_or_step 0 y 0 j (by decide)
  rw [Nat.pow_zero, Nat.mul_one, Nat.mul_one, Nat.zero_or, Nat.zero_or, Nat.zero_add] at h
  exact h

theorem bit_div (W t j : Nat) : (W / 2 ^ t).testBit j = W.testBit (t + j) := by
  rw [Nat.testBit_div_two_pow, Nat.add_comm]

/-- Is a word at its end from bit t on? -/
theorem over_none (W t : Nat) (hW : W < 18446744073709551616) (h : ∀ i, t ≤ i → i < 64 → W.testBit i = false) : W / 2 ^ t = 0 := by
  apply Nat.eq_of_testBit_eq
  intro i
  rw [bit_div, Nat.zero_testBit]
  rcases Nat.lt_or_ge (t + i) 64 with h1 | h1
  · exact h _ (by omega) h1
  · exact Nat.testBit_lt_two_pow (Nat.lt_of_lt_of_le hW (Nat.pow_le_pow_right (n := 2) (i := 64) (by decide) h1))

theorem over_some (W t i : Nat) (hi : t ≤ i) (h : W.testBit i = true) : W / 2 ^ t ≠ 0 := by
  intro h0
  have := bit_div W t (i - t)
  rw [h0, Nat.zero_testBit, show t + (i - t) = i by omega, h] at this
  cases this

theorem unpack_eq (W t : Nat) (fs : List Fld) (hw : wdF 0 fs = some t) : unpackF W fs = if (decide (W / 2 ^ t = 0) && (upL W fs).all fitB) = true then some (upL W fs) else none := by
  unfold unpackF
  rw [hw]

theorem unpack_width (W : Nat) (fs : List Fld) (hw : wdF 0 fs = none) : unpackF W fs = none := by
  unfold unpackF
  rw [hw]
  rfl

theorem unpack_fit (W : Nat) (fs : List Fld) (hf : (upL W fs).all fitB = false) : unpackF W fs = none := by
  unfold unpackF
  rw [hf, Bool.and_false]
  rfl

end Go.Proofs.YtddekakihandeaaDoor.M
