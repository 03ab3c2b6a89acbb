/-
  Own text: the contract of Apply.
-/
import Derived.Test.YtcnkpgbmegppbaaJApp0
namespace Go.Proofs.Ytcnkpgbmegppbaa.M
open Go.ChangeShapes Go.WideShapes Go.ChangeAt Go.RowKit

theorem rd_far {w : World} {g r bc : Nat} {x : HE} {at_ : Int} {H : List HE} (h : LB w g r bc x at_ H) {p : Option Addr} {n c : Nat} {xs : List Int} (hr : Rd .u8 w p n c xs) : ∀ b o, 0 < n → p = some ⟨b, o, none⟩ → b ≠ g := by
  intro b o h0 hp e
  subst e
  obtain ⟨b', o', hp', hc⟩ := hr.cells h0
  rw [hp] at hp'
  cases hp'
  have h1 := hc 0 h0
  rw [Nat.add_zero, h.blk.cell] at h1
  match o, h1 with
  | 0, h1 => simp at h1
  | 1, h1 => simp at h1
  | 2, h1 => simp at h1
  | 3, h1 => simp at h1
  | n + 4, h1 => simp at h1

theorem Rd.ex {w w' : World} {g : Nat} {p : Option Addr} {n c : Nat} {xs : List Int} (h : Rd .u8 w p n c xs) (hx : Ex g w w') (hf : ∀ b o, 0 < n → p = some ⟨b, o, none⟩ → b ≠ g) : Rd .u8 w' p n c xs := by
  refine ⟨h.len, h.cap, h.nil, fun h0 => ?_⟩
  obtain ⟨b, o, hp, hc⟩ := h.cells h0
  refine ⟨b, o, hp, fun i hi => ?_⟩
  rw [World.cell?_of_block (a := ⟨b, o + i, none⟩) (hx.block b (World.block_lt_of_cell? _ _ (hc 0 h0)) (hf b o h0 hp))]
  exact hc i hi

theorem infoCh : (Try.prog.info? 42).map (fun i => (i.zero, i.size, i.bytes)) = some (some (.agg #[.int .i64 0, .slice none 0 0]), 2, 32) := by kernel_rfl

theorem sizeSlC : (Try.prog.info? 78).map (·.size) = some 1 := by kernel_rfl

theorem wp_store_slice {P : Program} {op : Oper} {a : Act} {w : World} {K : Act → World → Prop} {Q : Exit → Act → World → Prop} (ty : TypeId) (x y : Operand) (ho : op.op = .store ty x y) (b o : Nat) (p : Option Addr) (n c : Nat) (u : Value)
    (hx : a.eval x = .pointer (some ⟨b, o, none⟩)) (hy : a.eval y = .slice p n c) (hsz : (P.info? ty).map (·.size) = some 1) (hc : w.cell? ⟨b, o, none⟩ = some u) (hf : w.frozen? ⟨b, o, none⟩ = false)
    (h : K (a.put op.dst undef) (w.setCell ⟨b, o, none⟩ (.slice p n c))) : op.wp P a w K Q := by
  have hrun : (storeVar ty ⟨b, o, none⟩ (.slice p n c)).run P w = .ok () (w.setCell ⟨b, o, none⟩ (.slice p n c)) := by
    have := run_storeCells_cells (P := P) b o [.slice p n c] 0 w (fun j hj => by
        match j, hj with
        | 0, _ => rw [Nat.add_zero, hc]; rfl) (fun j hj => by
        match j, hj with
        | 0, _ => exact hf) (fun u hu => by rw [List.mem_singleton.1 hu]; rfl)
    cases hq : P.info? ty with
    | none => simp [hq] at hsz
    | some i =>
      have hs : i.size = 1 := by simpa [hq] using hsz
      simp only [Nat.add_zero] at this
      simp [storeVar, sizeOf, typeInfo, hq, Value.cells, hs, this, World.setCells]
  unfold Oper.wp execOp
  simp only [ho, hx, hy, Instr.storeAt, Instr.sureAddr, Sem.run_bind, Sem.run_pure, Result.andThen_ok, hrun]
  exact h

/-- A ledger behind a call: its row is the old one, or new. -/
def Aft (w w' : World) (g r : Nat) (s : PL) : Prop := ∃ r', (r' = r ∨ w.heap.size ≤ r') ∧ LP w' g r' s

theorem Aft.mk {w w' : World} {g r : Nat} {s : PL} (r' : Nat) (h : r' = r ∨ w.heap.size ≤ r') (l : LP w' g r' s) : Aft w w' g r s := ⟨r', h, l⟩

/-- .. and an empty box stands there. -/
def Bx (w : World) (x : Nat) (W : World) : Prop := Bl w W ∧ W.heap[x]? = some (.cells #[.int .i64 0, .slice none 0 0] 42)

theorem Bx.stays (w : World) (x : Nat) : Stays (Bx w x) := fun W W' h hb => ⟨Bl.stays w W W' h.1 hb, (hb.block x (Array.getElem?_eq_some_iff.1 h.2).1).trans h.2⟩

theorem cell_below {W W' : World} {p : Addr} {v : Value} (hb : Below W.heap.size W W') (h : W.cell? p = some v) : W'.cell? p = some v := (hb.cell (World.block_lt_of_cell? _ _ h)).trans h

theorem range2 {W : World} {b o : Nat} {x y : Value} (c0 : W.cell? ⟨b, o, none⟩ = some x) (c1 : W.cell? ⟨b, o + 1, none⟩ = some y) : W.rangeAt b o [x, y] := by
  intro j v hj
  match j, hj with
  | 0, hj => cases hj; exact c0
  | 1, hj => cases hj; exact c1

theorem range4 {W : World} {b : Nat} {x y z u : Value} {t : TypeId} (h : At t W b #[x, y, z, u]) : W.rangeAt b 0 [x, y, z, u] := by
  intro j v hj
  rw [Nat.zero_add]
  match j, hj with
  | 0, hj => cases hj; exact h.cell 0
  | 1, hj => cases hj; exact h.cell 1
  | 2, hj => cases hj; exact h.cell 2
  | 3, hj => cases hj; exact h.cell 3

theorem change_is (k nd st ep e : Int) (p : Option Addr) (n c : Nat) (ms : List Mb) (w : World) (hr : RdM w p n c ms) (hn : n ≤ 5864062014805) (E KK : Int) (M : List Mb) (hE : CRe (chR k nd st e ms) = E) (hM : CRm (chR k nd st e ms) = M) (hK : CRk (chR k nd st e ms) = KK) :
    Calls Try.prog 53 #[.agg #[.int .i64 e, .slice p n c], .agg #[.int .i64 k, .int .i64 nd, .int .i64 st, .int .i64 ep]] w fun r w' => ∃ v, r = .returned v ∧ (∃ q cc, v = .tuple #[.agg #[.int .i64 E, .slice q M.length cc], .int .i64 KK] ∧ (∀ a, q = some a → 0 < M.length → w.heap.size ≤ a.block) ∧ RdM w' q M.length cc M) ∧ Below w.heap.size w w' := by
  refine (change_any k nd st ep e p n c ms w hr hn).mono ?_
  rintro r w' ⟨v, rfl, hT, hb⟩
  obtain ⟨q, cc, h1, h2, h3⟩ := hT.rd
  subst hE hM hK
  exact ⟨v, rfl, ⟨q, cc, h1, h2, h3⟩, hb⟩

theorem wp_app {P : Program} {op : Oper} {a : Act} {w : World} {K : Act → World → Prop} {Q : Exit → Act → World → Prop} (s x : Operand) (t : TypeId) (hop : op.op = .call { callee := .builtin .append, args := #[s, x], argTypes := #[t, t] }) (u v : Value) (hs : a.eval s = u) (hx : a.eval x = v) (y : Value) (w' : World)
    (hrun : (Builtin.append_ #[t, t] op.type #[u, v]).run P w = .ok y w') (h : K (a.put op.dst y) w') : op.wp P a w K Q := by
  unfold Oper.wp
  simp [execOp, hop, resolve, invoke, builtin, hs, hx, hrun, Result.andThen]
  exact h

theorem Grew.below {V V' W : World} {r r' : Nat} (h : Grew V V' r r') (hb : Below V'.heap.size V' W) : Grew V W r r' := by
  have t : ∀ o, V.grownBy V' o → V.grownBy W o := fun o k => ⟨hb.os.trans k.os, hb.tape.trans k.tape, hb.output.trans k.output, Nat.le_trans k.size hb.size, fun i hi ho => (hb.block i (Nat.lt_of_lt_of_le hi k.size)).trans (k.block i hi ho)⟩
  rcases h with ⟨h1, h2⟩ | ⟨h1, h2⟩
  · exact Or.inl ⟨h1, t _ h2⟩
  · exact Or.inr ⟨h1, t _ h2⟩

/-- What the append's region reads. -/
def C0 (g r n bc x : Nat) (E : Int) (q : Option Addr) (N cc : Nat) (W : World) : Prop := W.cell? ⟨g, 0, none⟩ = some (.slice (some ⟨r, 0, none⟩) n bc) ∧ W.cell? ⟨x, 0, none⟩ = some (.int .i64 E) ∧ W.cell? ⟨x, 1, none⟩ = some (.slice q N cc)

/-- What it leaves. -/
def S4 (w1 : World) (g r r' bc : Nat) (X : HE) (i : Int) (H : List HE) (x : Nat) (E : Int) (q : Option Addr) (N cc : Nat) (M : List Mb) (W : World) : Prop := LB W g r' bc X i H ∧ Ex2 g r w1 W ∧ W.cell? ⟨x, 0, none⟩ = some (.int .i64 E) ∧ W.cell? ⟨x, 1, none⟩ = some (.slice q N cc) ∧ RdM W q N cc M

theorem S4.stays (w1 : World) (g r r' bc : Nat) (X : HE) (i : Int) (H : List HE) (x : Nat) (E : Int) (q : Option Addr) (N cc : Nat) (M : List Mb) : Stays (S4 w1 g r r' bc X i H x E q N cc M) := fun _ _ h hb =>
  ⟨h.1.below hb, h.2.1.trans (Ex2.of_below hb) (Or.inl rfl), cell_below hb h.2.2.1, cell_below hb h.2.2.2.1, h.2.2.2.2.below hb⟩

set_option linter.unusedSimpArgs false in
set_option maxRecDepth 20000 in
set_option maxHeartbeats 4000000 in
theorem Apply_gap (g r : Nat) (s : PL) (w : World) (h : LP w g r s) (i : Int) (v : Value) (ha : -9223372036854775808 ≤ s.at_ ∧ s.at_ ≤ 1099511627776) (hi : ¬ (i = s.at_ + 1 ∧ i ≤ 1099511627776)) :
    Calls Try.prog 27 #[.pointer (some ⟨g, 0, none⟩), .int .i64 i, v] w fun o w' => o = .returned (.int .i64 90) ∧ w' = w := by
  obtain ⟨bc, x, H, hL, hx, hH⟩ := h
  have hm := made_yes g r bc x s.at_ H w hL
  obtain ⟨q0, q1, q2, q3⟩ := hL.blk.four
  have hc1 : IntKind.i64.wrap (s.at_ + 1) = s.at_ + 1 := by rw [IntKind.wrap_i64]; omega
  generalize s.at_ = at_ at *
  by_cases h1 : i = at_ + 1
  · have h2 : (1099511627776 : Int) < i := by omega
    have d1 : (i != at_ + 1) = false := by simp [h1]
    have d2 : decide ((1099511627776 : Int) < i) = true := decide_eq_true h2
    clear h1 h2 hi hL hx hH ha
    go_enter Try.func27, Try.ntmps27
    go_wp2_with fail
    refine hm.mono ?_
    rintro o w1 ⟨rfl, hw⟩
    subst w1
    go_wp2_with fail
    go_ret
    exact ⟨rfl, rfl⟩
  · have d1 : (i != at_ + 1) = true := by simp [h1]
    clear h1 hi hL hx hH ha
    go_enter Try.func27, Try.ntmps27
    go_wp2_with fail
    refine hm.mono ?_
    rintro o w1 ⟨rfl, hw⟩
    subst w1
    go_wp2_with fail
    go_ret
    exact ⟨rfl, rfl⟩

set_option linter.unusedSimpArgs false in
set_option maxRecDepth 20000 in
set_option maxHeartbeats 4000000 in
theorem Apply_none (g r : Nat) (s : PL) (w : World) (h : LP w g r s) (i : Int) (p : Option Addr) (c : Nat) (ha : -9223372036854775808 ≤ s.at_) (hi : i = s.at_ + 1 ∧ i ≤ 1099511627776) :
    Calls Try.prog 27 #[.pointer (some ⟨g, 0, none⟩), .int .i64 i, .slice p 0 c] w fun o w' => o = .returned (.int .i64 0) ∧ LP w' g r { s with at_ := i } ∧ Ex2 g r w w' := by
  obtain ⟨bc, x, H, hL, hx, hH⟩ := h
  have hm := made_yes g r bc x s.at_ H w hL
  obtain ⟨q0, q1, q2, q3⟩ := hL.blk.four
  have f3 := hL.blk.free 3
  have hE : Ex2 g r w (w.setCell ⟨g, 3, none⟩ (.int .i64 i)) := (Ex2.refl _ _ _).setG 3 _
  have hS : LP (w.setCell ⟨g, 3, none⟩ (.int .i64 i)) g r { s with at_ := i } := ⟨bc, x, H, hL.setAt i, hx, hH⟩
  have hc1 : IntKind.i64.wrap (s.at_ + 1) = s.at_ + 1 := by rw [IntKind.wrap_i64]; omega
  have d1 : (i != s.at_ + 1) = false := by simp [hi.1]
  have d2 : decide ((1099511627776 : Int) < i) = false := decide_eq_false (by omega)
  clear hi hL hx hH ha
  go_enter Try.func27, Try.ntmps27
  go_wp2_with fail
  refine hm.mono ?_
  rintro o w1 ⟨rfl, hw⟩
  subst w1
  go_wp2_with fail
  go_ret
  exact ⟨rfl, hS, hE⟩

set_option linter.unusedSimpArgs false in
set_option maxRecDepth 20000 in
set_option maxHeartbeats 4000000 in
theorem Apply_bad (g r : Nat) (s : PL) (w : World) (h : LP w g r s) (i : Int) (p : Option Addr) (n c : Nat) (xs : List Int) (hr : Rd .u8 w p n c xs) (hxb : By xs) (hn : n ≤ 1099511627776) (h0 : 0 < n) (ha : -9223372036854775808 ≤ s.at_) (hi : i = s.at_ + 1 ∧ i ≤ 1099511627776)
    (hms : s.ms.length ≤ 5864062014805) (hHl : s.H.length ≤ 1099511627776) (hR : getR xs = none) :
    Calls Try.prog 27 #[.pointer (some ⟨g, 0, none⟩), .int .i64 i, .slice p n c] w fun o w' => o = .returned (.int .i64 (120 : Int)) ∧ Aft w w' g r { s with at_ := i } ∧ Ex2 g r w w' := by
  obtain ⟨bc, x, H, hL, hx, hH⟩ := h
  have hm := made_yes g r bc x s.at_ H w hL
  obtain ⟨q0, q1, q2, q3⟩ := hL.blk.four
  have f3 := hL.blk.free 3
  have he0 : Ex g w (w.setCell ⟨g, 3, none⟩ (.int .i64 i)) := (Ex.refl _ _).setCell 3 _
  have hE : Ex2 g r w (w.setCell ⟨g, 3, none⟩ (.int .i64 i)) := (Ex2.refl _ _ _).setG 3 _
  have hL1 := hL.setAt i
  have hG := Get_any p n c xs _ (hr.ex he0 (rd_far hL hr)) hxb hn
  have hc1 : IntKind.i64.wrap (s.at_ + 1) = s.at_ + 1 := by rw [IntKind.wrap_i64]; omega
  have d1 : (i != s.at_ + 1) = false := by simp [hi.1]
  have d2 : decide ((1099511627776 : Int) < i) = false := decide_eq_false (by omega)
  have d3 : ((n : Int) == 0) = false := by rw [beq_eq_false_iff_ne]; omega
  have hsz : (w.setCell ⟨g, 3, none⟩ (.int .i64 i)).heap.size = w.heap.size := by simp [World.setCell]
  rw [hR] at hG
  unfold getV at hG
  obtain ⟨e, px, nx, cx, ms⟩ := x
  obtain ⟨Se, Sm, Sa, SH⟩ := s
  dsimp only [HE.ch] at *
  injection hx with hx1 hx2
  subst hx1
  subst hx2
  clear hi hL ha hr he0 hR
  go_enter Try.func27, Try.ntmps27
  go_wp2_with fail
  refine hm.mono ?_
  rintro o w1 ⟨rfl, hw⟩
  subst w1
  go_wp2_with fail
  refine hG.mono ?_
  rintro o w2 ⟨rfl, hb2⟩
  have hL2 := hL1.below hb2
  have hE2 : Ex2 g r w w2 := hE.trans (Ex2.of_below hb2) (Or.inl rfl)
  clear hG hm q0 q1 q2 q3 f3 hE hL1 hb2 hsz d1 d2 d3 hc1
  · skip
    go_wp2_with fail
    go_ret
    exact ⟨rfl, Aft.mk r (Or.inl rfl) ⟨bc, _, H, hL2.below (below_alloc _ _), rfl, hH⟩, hE2.trans (Ex2.of_below (below_alloc _ _)) (Or.inl rfl)⟩

set_option linter.unusedSimpArgs false in
set_option maxRecDepth 20000 in
set_option maxHeartbeats 4000000 in
theorem Apply_ep (g r : Nat) (s : PL) (w : World) (h : LP w g r s) (i : Int) (p : Option Addr) (n c : Nat) (xs : List Int) (hr : Rd .u8 w p n c xs) (hxb : By xs) (hn : n ≤ 1099511627776) (h0 : 0 < n) (ha : -9223372036854775808 ≤ s.at_) (hi : i = s.at_ + 1 ∧ i ≤ 1099511627776)
    (hms : s.ms.length ≤ 5864062014805) (hHl : s.H.length ≤ 1099511627776) (k nd st ep : Int) (hR : getR xs = some (k, nd, st, ep)) (hep : ep ≠ s.e) :
    Calls Try.prog 27 #[.pointer (some ⟨g, 0, none⟩), .int .i64 i, .slice p n c] w fun o w' => o = .returned (.int .i64 (150 : Int)) ∧ Aft w w' g r { s with at_ := i } ∧ Ex2 g r w w' := by
  obtain ⟨bc, x, H, hL, hx, hH⟩ := h
  have hm := made_yes g r bc x s.at_ H w hL
  obtain ⟨q0, q1, q2, q3⟩ := hL.blk.four
  have f3 := hL.blk.free 3
  have he0 : Ex g w (w.setCell ⟨g, 3, none⟩ (.int .i64 i)) := (Ex.refl _ _).setCell 3 _
  have hE : Ex2 g r w (w.setCell ⟨g, 3, none⟩ (.int .i64 i)) := (Ex2.refl _ _ _).setG 3 _
  have hL1 := hL.setAt i
  have hG := Get_any p n c xs _ (hr.ex he0 (rd_far hL hr)) hxb hn
  have hc1 : IntKind.i64.wrap (s.at_ + 1) = s.at_ + 1 := by rw [IntKind.wrap_i64]; omega
  have d1 : (i != s.at_ + 1) = false := by simp [hi.1]
  have d2 : decide ((1099511627776 : Int) < i) = false := decide_eq_false (by omega)
  have d3 : ((n : Int) == 0) = false := by rw [beq_eq_false_iff_ne]; omega
  have hsz : (w.setCell ⟨g, 3, none⟩ (.int .i64 i)).heap.size = w.heap.size := by simp [World.setCell]
  rw [hR] at hG
  unfold getV at hG
  obtain ⟨e, px, nx, cx, ms⟩ := x
  obtain ⟨Se, Sm, Sa, SH⟩ := s
  dsimp only [HE.ch] at *
  injection hx with hx1 hx2
  subst hx1
  subst hx2
  clear hi hL ha hr he0 hR
  go_enter Try.func27, Try.ntmps27
  go_wp2_with fail
  refine hm.mono ?_
  rintro o w1 ⟨rfl, hw⟩
  subst w1
  go_wp2_with fail
  refine hG.mono ?_
  rintro o w2 ⟨rfl, hb2⟩
  have hL2 := hL1.below hb2
  have hE2 : Ex2 g r w w2 := hE.trans (Ex2.of_below hb2) (Or.inl rfl)
  clear hG hm q0 q1 q2 q3 f3 hE hL1 hb2 hsz d1 d2 d3 hc1
  · skip
    have hba := below_alloc w2 (.cells #[.int .i64 k, .int .i64 nd, .int .i64 st, .int .i64 ep] 23)
    have hC := At.new 23 w2 #[.int .i64 k, .int .i64 nd, .int .i64 st, .int .i64 ep]
    have hL3 := hL2.below hba
    have hE3 : Ex2 g r w _ := hE2.trans (Ex2.of_below hba) (Or.inl rfl)
    obtain ⟨q0, q1, q2, q3⟩ := hL3.blk.four
    obtain ⟨c0, c1, c2, c3⟩ := hC.four
    have hle : w.heap.size ≤ w2.heap.size := hE2.size
    have hsz3 : (w2.alloc (.cells #[.int .i64 k, .int .i64 nd, .int .i64 st, .int .i64 ep] 23)).heap.size = w2.heap.size + 1 := by simp
    dsimp only at q0 q1 q2 q3
    clear hL2 hE2 hba
    have d1 : (ep != e) = true := by simp [hep]
    clear hep
    go_wp2_with fail
    go_region
    go_wp2_with fail
    go_ret
    exact ⟨rfl, Aft.mk r (Or.inl rfl) ⟨bc, _, H, hL3.below ((Below.refl _ _).drew), rfl, hH⟩, hE3.trans (Ex2.of_below ((Below.refl _ _).drew)) (Or.inl rfl)⟩

set_option linter.unusedSimpArgs false in
set_option maxRecDepth 20000 in
set_option maxHeartbeats 4000000 in
theorem Apply_err (g r : Nat) (s : PL) (w : World) (h : LP w g r s) (i : Int) (p : Option Addr) (n c : Nat) (xs : List Int) (hr : Rd .u8 w p n c xs) (hxb : By xs) (hn : n ≤ 1099511627776) (h0 : 0 < n) (ha : -9223372036854775808 ≤ s.at_) (hi : i = s.at_ + 1 ∧ i ≤ 1099511627776)
    (hms : s.ms.length ≤ 5864062014805) (hHl : s.H.length ≤ 1099511627776) (k nd st ep : Int) (hR : getR xs = some (k, nd, st, ep)) (hep : ep = s.e) (er : Int) (hc : chR k nd st s.e s.ms = .error er) :
    Calls Try.prog 27 #[.pointer (some ⟨g, 0, none⟩), .int .i64 i, .slice p n c] w fun o w' => o = .returned (.int .i64 er) ∧ Aft w w' g r { s with at_ := i } ∧ Ex2 g r w w' := by
  obtain ⟨bc, x, H, hL, hx, hH⟩ := h
  have hm := made_yes g r bc x s.at_ H w hL
  obtain ⟨q0, q1, q2, q3⟩ := hL.blk.four
  have f3 := hL.blk.free 3
  have he0 : Ex g w (w.setCell ⟨g, 3, none⟩ (.int .i64 i)) := (Ex.refl _ _).setCell 3 _
  have hE : Ex2 g r w (w.setCell ⟨g, 3, none⟩ (.int .i64 i)) := (Ex2.refl _ _ _).setG 3 _
  have hL1 := hL.setAt i
  have hG := Get_any p n c xs _ (hr.ex he0 (rd_far hL hr)) hxb hn
  have hc1 : IntKind.i64.wrap (s.at_ + 1) = s.at_ + 1 := by rw [IntKind.wrap_i64]; omega
  have d1 : (i != s.at_ + 1) = false := by simp [hi.1]
  have d2 : decide ((1099511627776 : Int) < i) = false := decide_eq_false (by omega)
  have d3 : ((n : Int) == 0) = false := by rw [beq_eq_false_iff_ne]; omega
  have hsz : (w.setCell ⟨g, 3, none⟩ (.int .i64 i)).heap.size = w.heap.size := by simp [World.setCell]
  rw [hR] at hG
  unfold getV at hG
  obtain ⟨e, px, nx, cx, ms⟩ := x
  obtain ⟨Se, Sm, Sa, SH⟩ := s
  dsimp only [HE.ch] at *
  injection hx with hx1 hx2
  subst hx1
  subst hx2
  clear hi hL ha hr he0 hR
  go_enter Try.func27, Try.ntmps27
  go_wp2_with fail
  refine hm.mono ?_
  rintro o w1 ⟨rfl, hw⟩
  subst w1
  go_wp2_with fail
  refine hG.mono ?_
  rintro o w2 ⟨rfl, hb2⟩
  have hL2 := hL1.below hb2
  have hE2 : Ex2 g r w w2 := hE.trans (Ex2.of_below hb2) (Or.inl rfl)
  clear hG hm q0 q1 q2 q3 f3 hE hL1 hb2 hsz d1 d2 d3 hc1
  · skip
    have hba := below_alloc w2 (.cells #[.int .i64 k, .int .i64 nd, .int .i64 st, .int .i64 ep] 23)
    have hC := At.new 23 w2 #[.int .i64 k, .int .i64 nd, .int .i64 st, .int .i64 ep]
    have hL3 := hL2.below hba
    have hE3 : Ex2 g r w _ := hE2.trans (Ex2.of_below hba) (Or.inl rfl)
    obtain ⟨q0, q1, q2, q3⟩ := hL3.blk.four
    obtain ⟨c0, c1, c2, c3⟩ := hC.four
    have hle : w.heap.size ≤ w2.heap.size := hE2.size
    have hsz3 : (w2.alloc (.cells #[.int .i64 k, .int .i64 nd, .int .i64 st, .int .i64 ep] 23)).heap.size = w2.heap.size + 1 := by simp
    dsimp only at q0 q1 q2 q3
    clear hL2 hE2 hba
    have d1 : (ep != e) = false := by simp [hep]
    have HE : Hid (CRe (chR k nd st e ms) = 0) := by unfold Hid; rw [hc]; rfl
    have HM : Hid (CRm (chR k nd st e ms) = []) := by unfold Hid; rw [hc]; rfl
    have HK : Hid (CRk (chR k nd st e ms) = er) := by unfold Hid; rw [hc]; rfl
    have her : (er != 0) = true := by have := chR_err hc; simpa using this
    have hnx : nx ≤ 5864062014805 := by have := hL3.now.1.len; dsimp only at this; omega
    clear hep hc
    go_wp2_with fail
    go_region
    go_wp2_with fail
    have hL4 := hL3.below ((Below.refl _ _).drew)
    have hE4 := hE3.trans (Ex2.of_below ((Below.refl _ _).drew)) (Or.inl rfl)
    have hC4 := hC.below ((Below.refl _ _).drew)
    have hs4 : (w2.alloc (.cells #[.int .i64 k, .int .i64 nd, .int .i64 st, .int .i64 ep] 23)).drew.heap.size = w2.heap.size + 1 := by simp
    clear hL3 hE3 hC q0 q1 q2 q3 c0 c1 c2 c3 hsz3
    generalize (w2.alloc (.cells #[.int .i64 k, .int .i64 nd, .int .i64 st, .int .i64 ep] 23)).drew = w0 at *
    generalize w2.heap.size = b4 at *
    obtain ⟨q0, q1, q2, q3⟩ := hL4.blk.four
    dsimp only at q0 q1 q2 q3
    have hS0 : Bl w0 w0.drew := (Below.refl _ _).drew
    refine wp_region_det [0, 1, 2, 3, 4, 6, 7, 8, 11] (Bl w0) (Bl w0) (by kernel_rfl) hS0 ?_
    refine wpDet_take ?vA0 (Bl.stays w0) (fun _ h => h) (i := 0) rfl (by kernel_rfl) (by kernel_rfl) (by kernel_rfl) (by kernel_rfl) (fun _ _ _ h => h) (Gives.value (by rfl) ?yA0) ?rA0
    case yA0 => (intro w' hSw; go_simp; try with_reducible rfl)
    (try simp only [Act.put, List.getElem_toArray, List.getElem_cons_zero, List.getElem_cons_succ, List.setIfInBounds_toArray, List.set_cons_zero, List.set_cons_succ])
    refine wpDet_take ?vA1 (Bl.stays w0) (fun _ h => h) (i := 1) rfl (by kernel_rfl) (by kernel_rfl) (by kernel_rfl) (by kernel_rfl) (fun _ _ _ h => h) (Gives.value (by rfl) ?yA1) ?rA1
    case yA1 => (intro w' hSw; go_simp; try with_reducible rfl)
    (try simp only [Act.put, List.getElem_toArray, List.getElem_cons_zero, List.getElem_cons_succ, List.setIfInBounds_toArray, List.set_cons_zero, List.set_cons_succ])
    refine wpDet_take ?vA2 (Bl.stays w0) (fun _ h => h) (i := 2) rfl (by kernel_rfl) (by kernel_rfl) (by kernel_rfl) (by kernel_rfl) (fun _ _ _ h => h) (Gives.value (by rfl) ?yA2) ?rA2
    case yA2 => (intro w' hSw; go_simp; try with_reducible rfl)
    (try simp only [Act.put, List.getElem_toArray, List.getElem_cons_zero, List.getElem_cons_succ, List.setIfInBounds_toArray, List.set_cons_zero, List.set_cons_succ])
    refine wpDet_take _ (Bl.stays w0) (fun _ h => h) (i := 3) rfl (by kernel_rfl) (by kernel_rfl) (by kernel_rfl) (by kernel_rfl) (fun _ _ _ h => h) (Gives.of_yields (yieldsIf_load_mid (by rfl) _ _ rfl _ _ rfl _ _ (fun W h => range2 (cell_below h q1) (cell_below h q2)) Try.underlying42 rfl sizeC)) ?_
    (try simp only [Act.put, List.getElem_toArray, List.getElem_cons_zero, List.getElem_cons_succ, List.setIfInBounds_toArray, List.set_cons_zero, List.set_cons_succ])
    refine wpDet_take _ (Bl.stays w0) (fun _ h => h) (i := 4) rfl (by kernel_rfl) (by kernel_rfl) (by kernel_rfl) (by kernel_rfl) (fun _ _ _ h => h) (Gives.of_yields (yieldsIf_load_mid (by rfl) _ _ rfl _ _ rfl _ _ (fun W h => range4 (hC4.below h)) Try.underlying23 rfl cmd_info)) ?_
    (try simp only [Act.put, List.getElem_toArray, List.getElem_cons_zero, List.getElem_cons_succ, List.setIfInBounds_toArray, List.set_cons_zero, List.set_cons_succ])
    refine wpDet_ready (rs := [5, 9]) (by kernel_rfl) (by simp) (AllDet.cons rfl (fun V hV K hK => ?_) (AllDet.cons rfl (fun V hV K hK => ?_) AllDet.nil))
    · rw [if_pos (by rfl)]
      have hCv := change_is k nd st ep e px nx cx ms V (hL4.now.1.below hV) hnx 0 er [] HE.out HM.out HK.out
      refine wp_enterE 53 #[.agg #[.int .i64 e, .slice px nx cx], .agg #[.int .i64 k, .int .i64 nd, .int .i64 st, .int .i64 ep]] (by first | (go_simp; done) | (go_simp; rfl)) (fun v W => (∃ q cc, v = .tuple #[.agg #[.int .i64 0, .slice q ([] : List Mb).length cc], .int .i64 er] ∧ (∀ a, q = some a → 0 < ([] : List Mb).length → V.heap.size ≤ a.block) ∧ RdM W q ([] : List Mb).length cc []) ∧ Below V.heap.size V W) (hCv.mono fun e' w' hh => by obtain ⟨v, h1, h2, h3⟩ := hh; exact ⟨v, h1, h2, h3⟩) ?_
      rintro v7 V7 ⟨⟨q, cc, rfl, hq, hrq⟩, hb7⟩
      obtain ⟨N, HN⟩ : ∃ N, Hid (([] : List Mb).length = N) := ⟨_, rfl⟩
      rw [HN.out] at hq hrq ⊢
      refine hK.out (Br w0 q N cc []) _ _ (Br.stays w0 _ _ _ _) (fun _ _ h => h.1) ⟨Bl.stays w0 V V7 hV hb7, hrq⟩ ?_
      have hql : ∀ a, q = some a → 0 < N → w0.heap.size ≤ a.block := fun a ha h0 => Nat.le_trans (Bl.out hV).size (hq a ha h0)
      clear hK K hCv hb7 hV hrq hq
      (try simp only [Act.put, List.getElem_toArray, List.getElem_cons_zero, List.getElem_cons_succ, List.setIfInBounds_toArray, List.set_cons_zero, List.set_cons_succ])
      refine wpDet_take ?vB6 (Br.stays w0 _ _ _ _) (fun _ h => h.1) (i := 6) rfl (by kernel_rfl) (by kernel_rfl) (by kernel_rfl) (by kernel_rfl) (fun _ _ _ h => h) (Gives.value (by rfl) ?yB6) ?rB6
      case yB6 => (intro w' hSw; go_simp; try with_reducible rfl)
      (try simp only [Act.put, List.getElem_toArray, List.getElem_cons_zero, List.getElem_cons_succ, List.setIfInBounds_toArray, List.set_cons_zero, List.set_cons_succ])
      refine wpDet_take ?vB7 (Br.stays w0 _ _ _ _) (fun _ h => h.1) (i := 7) rfl (by kernel_rfl) (by kernel_rfl) (by kernel_rfl) (by kernel_rfl) (fun _ _ _ h => h) (Gives.value (by rfl) ?yB7) ?rB7
      case yB7 => (intro w' hSw; go_simp; try with_reducible rfl)
      (try simp only [Act.put, List.getElem_toArray, List.getElem_cons_zero, List.getElem_cons_succ, List.setIfInBounds_toArray, List.set_cons_zero, List.set_cons_succ])
      refine wpDet_take ?vB8 (Br.stays w0 _ _ _ _) (fun _ h => h.1) (i := 8) rfl (by kernel_rfl) (by kernel_rfl) (by kernel_rfl) (by kernel_rfl) (fun _ _ _ h => h) (Gives.value (by rfl) ?yB8) ?rB8
      case yB8 => (intro w' hSw; go_simp; try with_reducible rfl)
      (try simp only [Act.put, List.getElem_toArray, List.getElem_cons_zero, List.getElem_cons_succ, List.setIfInBounds_toArray, List.set_cons_zero, List.set_cons_succ])
      refine wpDet_ready (rs := [9]) (by kernel_rfl) (by simp) (AllDet.cons rfl (fun V hV K hK => ?_) AllDet.nil)
      rw [if_pos (by rfl)]
      refine wp_value (.pointer (some ⟨V.heap.size, 0, none⟩)) (V.alloc (.cells #[.int .i64 0, .slice none 0 0] 42)) (by first | (go_simp; done) | (go_simp; rfl)) ?_
      have hqx : ∀ a, q = some a → 0 < N → a.block ≠ V.heap.size := fun a ha h0 => Nat.ne_of_lt (rd_lt hV.2 ha h0)
      have hxl : w0.heap.size ≤ V.heap.size := (Bl.out hV.1).size
      refine hK.out (fun W => Br w0 q N cc [] W ∧ Bx w0 V.heap.size W) _ _ ((Br.stays w0 _ _ _ _).and (Bx.stays w0 _)) (fun _ _ h => h.1.1) ⟨Br.stays w0 _ _ _ _ V _ hV ((Below.refl _ _).alloc (Nat.le_refl _) _), Bl.stays w0 V _ hV.1 ((Below.refl _ _).alloc (Nat.le_refl _) _), heap_alloc_new _ _⟩ ?_
      clear hK K hV
      generalize V.heap.size = x at *
      (try simp only [Act.put, List.getElem_toArray, List.getElem_cons_zero, List.getElem_cons_succ, List.setIfInBounds_toArray, List.set_cons_zero, List.set_cons_succ])
      refine wpDet_ready (rs := [10]) (by kernel_rfl) (by simp) (AllDet.cons rfl (fun V hV K hK => ?_) AllDet.nil)
      rw [if_pos (by rfl)]
      have y0 := cell_row hV.2.2 (j := 0) (v := .int .i64 0) rfl
      have y1 := cell_row hV.2.2 (j := 1) (v := .slice none 0 0) rfl
      have g0 := frozen_of_row V x 0 _ _ hV.2.2
      have g1 := frozen_of_row V x 1 _ _ hV.2.2
      have hth : V.there x 0 2 := fun j hj => by rw [Nat.zero_add]; match j, hj with | 0, _ => exact ⟨by rw [y0]; rfl, g0⟩ | 1, _ => exact ⟨by rw [y1]; rfl, g1⟩
      refine wp_store_mid 42 _ _ rfl x 0 #[.int .i64 0, .slice q N cc] rfl rfl hth sizeC (one2 _ _ _ _) ?_
      have hz : Bz w0.heap.size w0 x 0 q N cc [] ((V.setCell ⟨x, 0, none⟩ (.int .i64 0)).setCell ⟨x, 1, none⟩ (.slice q N cc)) := ⟨Gr.putB (Bl.out hV.1.1) hxl _ _, hV.1.2.put _ _ (fun a ha h0 => hqx a ha h0), two0 y0, two1 y1, by have := (Bl.out hV.1.1).size; simp; omega⟩
      refine hK.out (Bz w0.heap.size w0 x 0 q N cc []) _ _ (Bz.stays _ _ _ _ _ _ _ _) (fun _ _ h => h.1) hz ?_
      clear hK K hV hth hz y0 y1 g0 g1
      (try simp only [Act.put, List.getElem_toArray, List.getElem_cons_zero, List.getElem_cons_succ, List.setIfInBounds_toArray, List.set_cons_zero, List.set_cons_succ])
      refine wpDet_take ?vC11 (Bz.stays _ _ _ _ _ _ _ _) (fun _ h => h.1) (i := 11) rfl (by kernel_rfl) (by kernel_rfl) (by kernel_rfl) (by kernel_rfl) (fun _ _ _ h => h) (Gives.value (by rfl) ?yC11) ?rC11
      case yC11 => (intro w' hSw; go_simp; try with_reducible rfl)
      (try simp only [Act.put, List.getElem_toArray, List.getElem_cons_zero, List.getElem_cons_succ, List.setIfInBounds_toArray, List.set_cons_zero, List.set_cons_succ])
      refine wpDet_done (by kernel_rfl) (fun W3 hV => ?_) _
      obtain ⟨hb3, rq, z0, z1, hs3⟩ := hV
      have hL5 := hL4.below hb3
      have hE5 := hE4.trans (Ex2.of_below hb3) (Or.inl rfl)
      have hlg : g < w0.heap.size := hL4.blk.lt
      have hlr : r < w0.heap.size := hL4.lr
      clear hL4 hE4 hC4 q0 q1 q2 q3 hS0 HE HM HK
      obtain ⟨q0, q1, q2, q3⟩ := hL5.blk.four
      dsimp only at q0 q1 q2 q3
      go_wp2_with fail
      go_ret
      exact ⟨rfl, Aft.mk r (Or.inl rfl) ⟨bc, _, H, hL5, rfl, hH⟩, hE5⟩
    · rw [if_pos (by rfl)]
      refine wp_value (.pointer (some ⟨V.heap.size, 0, none⟩)) (V.alloc (.cells #[.int .i64 0, .slice none 0 0] 42)) (by first | (go_simp; done) | (go_simp; rfl)) ?_
      have hxl : w0.heap.size ≤ V.heap.size := (Bl.out hV).size
      refine hK.out (Bx w0 V.heap.size) _ _ (Bx.stays w0 _) (fun _ _ h => h.1) ⟨Bl.stays w0 V _ hV ((Below.refl _ _).alloc (Nat.le_refl _) _), heap_alloc_new _ _⟩ ?_
      clear hK K hV
      generalize V.heap.size = x at *
      (try simp only [Act.put, List.getElem_toArray, List.getElem_cons_zero, List.getElem_cons_succ, List.setIfInBounds_toArray, List.set_cons_zero, List.set_cons_succ])
      refine wpDet_ready (rs := [5]) (by kernel_rfl) (by simp) (AllDet.cons rfl (fun V hV K hK => ?_) AllDet.nil)
      rw [if_pos (by rfl)]
      have hCv := change_is k nd st ep e px nx cx ms V (hL4.now.1.below hV.1) hnx 0 er [] HE.out HM.out HK.out
      refine wp_enterE 53 #[.agg #[.int .i64 e, .slice px nx cx], .agg #[.int .i64 k, .int .i64 nd, .int .i64 st, .int .i64 ep]] (by first | (go_simp; done) | (go_simp; rfl)) (fun v W => (∃ q cc, v = .tuple #[.agg #[.int .i64 0, .slice q ([] : List Mb).length cc], .int .i64 er] ∧ (∀ a, q = some a → 0 < ([] : List Mb).length → V.heap.size ≤ a.block) ∧ RdM W q ([] : List Mb).length cc []) ∧ Below V.heap.size V W) (hCv.mono fun e' w' hh => by obtain ⟨v, h1, h2, h3⟩ := hh; exact ⟨v, h1, h2, h3⟩) ?_
      rintro v7 V7 ⟨⟨q, cc, rfl, hq, hrq⟩, hb7⟩
      obtain ⟨N, HN⟩ : ∃ N, Hid (([] : List Mb).length = N) := ⟨_, rfl⟩
      rw [HN.out] at hq hrq ⊢
      have hqx : ∀ a, q = some a → 0 < N → a.block ≠ x := fun a ha h0 => Nat.ne_of_gt (Nat.lt_of_lt_of_le (Array.getElem?_eq_some_iff.1 hV.2).1 (hq a ha h0))
      have hql : ∀ a, q = some a → 0 < N → w0.heap.size ≤ a.block := fun a ha h0 => Nat.le_trans (Bl.out hV.1).size (hq a ha h0)
      refine hK.out (fun W => Br w0 q N cc [] W ∧ Bx w0 x W) _ _ ((Br.stays w0 _ _ _ _).and (Bx.stays w0 _)) (fun _ _ h => h.1.1) ⟨⟨Bl.stays w0 V V7 hV.1 hb7, hrq⟩, Bx.stays w0 x V V7 hV hb7⟩ ?_
      clear hK K hCv hb7 hV hrq hq
      (try simp only [Act.put, List.getElem_toArray, List.getElem_cons_zero, List.getElem_cons_succ, List.setIfInBounds_toArray, List.set_cons_zero, List.set_cons_succ])
      refine wpDet_take ?vD6 ((Br.stays w0 _ _ _ _).and (Bx.stays w0 _)) (fun _ h => h.1.1) (i := 6) rfl (by kernel_rfl) (by kernel_rfl) (by kernel_rfl) (by kernel_rfl) (fun _ _ _ h => h) (Gives.value (by rfl) ?yD6) ?rD6
      case yD6 => (intro w' hSw; go_simp; try with_reducible rfl)
      (try simp only [Act.put, List.getElem_toArray, List.getElem_cons_zero, List.getElem_cons_succ, List.setIfInBounds_toArray, List.set_cons_zero, List.set_cons_succ])
      refine wpDet_take ?vD7 ((Br.stays w0 _ _ _ _).and (Bx.stays w0 _)) (fun _ h => h.1.1) (i := 7) rfl (by kernel_rfl) (by kernel_rfl) (by kernel_rfl) (by kernel_rfl) (fun _ _ _ h => h) (Gives.value (by rfl) ?yD7) ?rD7
      case yD7 => (intro w' hSw; go_simp; try with_reducible rfl)
      (try simp only [Act.put, List.getElem_toArray, List.getElem_cons_zero, List.getElem_cons_succ, List.setIfInBounds_toArray, List.set_cons_zero, List.set_cons_succ])
      refine wpDet_take ?vD8 ((Br.stays w0 _ _ _ _).and (Bx.stays w0 _)) (fun _ h => h.1.1) (i := 8) rfl (by kernel_rfl) (by kernel_rfl) (by kernel_rfl) (by kernel_rfl) (fun _ _ _ h => h) (Gives.value (by rfl) ?yD8) ?rD8
      case yD8 => (intro w' hSw; go_simp; try with_reducible rfl)
      (try simp only [Act.put, List.getElem_toArray, List.getElem_cons_zero, List.getElem_cons_succ, List.setIfInBounds_toArray, List.set_cons_zero, List.set_cons_succ])
      refine wpDet_ready (rs := [10]) (by kernel_rfl) (by simp) (AllDet.cons rfl (fun V hV K hK => ?_) AllDet.nil)
      rw [if_pos (by rfl)]
      have y0 := cell_row hV.2.2 (j := 0) (v := .int .i64 0) rfl
      have y1 := cell_row hV.2.2 (j := 1) (v := .slice none 0 0) rfl
      have g0 := frozen_of_row V x 0 _ _ hV.2.2
      have g1 := frozen_of_row V x 1 _ _ hV.2.2
      have hth : V.there x 0 2 := fun j hj => by rw [Nat.zero_add]; match j, hj with | 0, _ => exact ⟨by rw [y0]; rfl, g0⟩ | 1, _ => exact ⟨by rw [y1]; rfl, g1⟩
      refine wp_store_mid 42 _ _ rfl x 0 #[.int .i64 0, .slice q N cc] rfl rfl hth sizeC (one2 _ _ _ _) ?_
      have hz : Bz w0.heap.size w0 x 0 q N cc [] ((V.setCell ⟨x, 0, none⟩ (.int .i64 0)).setCell ⟨x, 1, none⟩ (.slice q N cc)) := ⟨Gr.putB (Bl.out hV.1.1) hxl _ _, hV.1.2.put _ _ (fun a ha h0 => hqx a ha h0), two0 y0, two1 y1, by have := (Bl.out hV.1.1).size; simp; omega⟩
      refine hK.out (Bz w0.heap.size w0 x 0 q N cc []) _ _ (Bz.stays _ _ _ _ _ _ _ _) (fun _ _ h => h.1) hz ?_
      clear hK K hV hth hz y0 y1 g0 g1
      (try simp only [Act.put, List.getElem_toArray, List.getElem_cons_zero, List.getElem_cons_succ, List.setIfInBounds_toArray, List.set_cons_zero, List.set_cons_succ])
      refine wpDet_take ?vE11 (Bz.stays _ _ _ _ _ _ _ _) (fun _ h => h.1) (i := 11) rfl (by kernel_rfl) (by kernel_rfl) (by kernel_rfl) (by kernel_rfl) (fun _ _ _ h => h) (Gives.value (by rfl) ?yE11) ?rE11
      case yE11 => (intro w' hSw; go_simp; try with_reducible rfl)
      (try simp only [Act.put, List.getElem_toArray, List.getElem_cons_zero, List.getElem_cons_succ, List.setIfInBounds_toArray, List.set_cons_zero, List.set_cons_succ])
      refine wpDet_done (by kernel_rfl) (fun W3 hV => ?_) _
      obtain ⟨hb3, rq, z0, z1, hs3⟩ := hV
      have hL5 := hL4.below hb3
      have hE5 := hE4.trans (Ex2.of_below hb3) (Or.inl rfl)
      have hlg : g < w0.heap.size := hL4.blk.lt
      have hlr : r < w0.heap.size := hL4.lr
      clear hL4 hE4 hC4 q0 q1 q2 q3 hS0 HE HM HK
      obtain ⟨q0, q1, q2, q3⟩ := hL5.blk.four
      dsimp only at q0 q1 q2 q3
      go_wp2_with fail
      go_ret
      exact ⟨rfl, Aft.mk r (Or.inl rfl) ⟨bc, _, H, hL5, rfl, hH⟩, hE5⟩

set_option linter.unusedSimpArgs false in
set_option maxRecDepth 20000 in
set_option maxHeartbeats 4000000 in
theorem Apply_rdy (g r : Nat) (s : PL) (w : World) (h : LP w g r s) (i : Int) (p : Option Addr) (n c : Nat) (xs : List Int) (hr : Rd .u8 w p n c xs) (hxb : By xs) (hn : n ≤ 1099511627776) (h0 : 0 < n) (ha : -9223372036854775808 ≤ s.at_) (hi : i = s.at_ + 1 ∧ i ≤ 1099511627776)
    (hms : s.ms.length ≤ 5864062014805) (hHl : s.H.length ≤ 1099511627776) (k nd st ep : Int) (hR : getR xs = some (k, nd, st, ep)) (hep : ep = s.e) (E : Int) (M : List Mb) (hc : chR k nd st s.e s.ms = .ok (E, M)) (hlt : ¬ s.e < E) :
    Calls Try.prog 27 #[.pointer (some ⟨g, 0, none⟩), .int .i64 i, .slice p n c] w fun o w' => o = .returned (.int .i64 0) ∧ Aft w w' g r ⟨E, M, i, s.H⟩ ∧ Ex2 g r w w' := by
  obtain ⟨bc, x, H, hL, hx, hH⟩ := h
  have hm := made_yes g r bc x s.at_ H w hL
  obtain ⟨q0, q1, q2, q3⟩ := hL.blk.four
  have f3 := hL.blk.free 3
  have he0 : Ex g w (w.setCell ⟨g, 3, none⟩ (.int .i64 i)) := (Ex.refl _ _).setCell 3 _
  have hE : Ex2 g r w (w.setCell ⟨g, 3, none⟩ (.int .i64 i)) := (Ex2.refl _ _ _).setG 3 _
  have hL1 := hL.setAt i
  have hG := Get_any p n c xs _ (hr.ex he0 (rd_far hL hr)) hxb hn
  have hc1 : IntKind.i64.wrap (s.at_ + 1) = s.at_ + 1 := by rw [IntKind.wrap_i64]; omega
  have d1 : (i != s.at_ + 1) = false := by simp [hi.1]
  have d2 : decide ((1099511627776 : Int) < i) = false := decide_eq_false (by omega)
  have d3 : ((n : Int) == 0) = false := by rw [beq_eq_false_iff_ne]; omega
  have hsz : (w.setCell ⟨g, 3, none⟩ (.int .i64 i)).heap.size = w.heap.size := by simp [World.setCell]
  rw [hR] at hG
  unfold getV at hG
  obtain ⟨e, px, nx, cx, ms⟩ := x
  obtain ⟨Se, Sm, Sa, SH⟩ := s
  dsimp only [HE.ch] at *
  injection hx with hx1 hx2
  subst hx1
  subst hx2
  clear hi hL ha hr he0 hR
  go_enter Try.func27, Try.ntmps27
  go_wp2_with fail
  refine hm.mono ?_
  rintro o w1 ⟨rfl, hw⟩
  subst w1
  go_wp2_with fail
  refine hG.mono ?_
  rintro o w2 ⟨rfl, hb2⟩
  have hL2 := hL1.below hb2
  have hE2 : Ex2 g r w w2 := hE.trans (Ex2.of_below hb2) (Or.inl rfl)
  clear hG hm q0 q1 q2 q3 f3 hE hL1 hb2 hsz d1 d2 d3 hc1
  · skip
    have hba := below_alloc w2 (.cells #[.int .i64 k, .int .i64 nd, .int .i64 st, .int .i64 ep] 23)
    have hC := At.new 23 w2 #[.int .i64 k, .int .i64 nd, .int .i64 st, .int .i64 ep]
    have hL3 := hL2.below hba
    have hE3 : Ex2 g r w _ := hE2.trans (Ex2.of_below hba) (Or.inl rfl)
    obtain ⟨q0, q1, q2, q3⟩ := hL3.blk.four
    obtain ⟨c0, c1, c2, c3⟩ := hC.four
    have hle : w.heap.size ≤ w2.heap.size := hE2.size
    have hsz3 : (w2.alloc (.cells #[.int .i64 k, .int .i64 nd, .int .i64 st, .int .i64 ep] 23)).heap.size = w2.heap.size + 1 := by simp
    dsimp only at q0 q1 q2 q3
    clear hL2 hE2 hba
    have d1 : (ep != e) = false := by simp [hep]
    have HE : Hid (CRe (chR k nd st e ms) = E) := by unfold Hid; rw [hc]; rfl
    have HM : Hid (CRm (chR k nd st e ms) = M) := by unfold Hid; rw [hc]; rfl
    have HK : Hid (CRk (chR k nd st e ms) = 0) := by unfold Hid; rw [hc]; rfl
    have hltd : decide (e < E) = false := by simpa using hlt
    have hnx : nx ≤ 5864062014805 := by have := hL3.now.1.len; dsimp only at this; omega
    clear hep hc
    go_wp2_with fail
    go_region
    go_wp2_with fail
    have hL4 := hL3.below ((Below.refl _ _).drew)
    have hE4 := hE3.trans (Ex2.of_below ((Below.refl _ _).drew)) (Or.inl rfl)
    have hC4 := hC.below ((Below.refl _ _).drew)
    have hs4 : (w2.alloc (.cells #[.int .i64 k, .int .i64 nd, .int .i64 st, .int .i64 ep] 23)).drew.heap.size = w2.heap.size + 1 := by simp
    clear hL3 hE3 hC q0 q1 q2 q3 c0 c1 c2 c3 hsz3
    generalize (w2.alloc (.cells #[.int .i64 k, .int .i64 nd, .int .i64 st, .int .i64 ep] 23)).drew = w0 at *
    generalize w2.heap.size = b4 at *
    obtain ⟨q0, q1, q2, q3⟩ := hL4.blk.four
    dsimp only at q0 q1 q2 q3
    have hS0 : Bl w0 w0.drew := (Below.refl _ _).drew
    refine wp_region_det [0, 1, 2, 3, 4, 6, 7, 8, 11] (Bl w0) (Bl w0) (by kernel_rfl) hS0 ?_
    refine wpDet_take ?vA0 (Bl.stays w0) (fun _ h => h) (i := 0) rfl (by kernel_rfl) (by kernel_rfl) (by kernel_rfl) (by kernel_rfl) (fun _ _ _ h => h) (Gives.value (by rfl) ?yA0) ?rA0
    case yA0 => (intro w' hSw; go_simp; try with_reducible rfl)
    (try simp only [Act.put, List.getElem_toArray, List.getElem_cons_zero, List.getElem_cons_succ, List.setIfInBounds_toArray, List.set_cons_zero, List.set_cons_succ])
    refine wpDet_take ?vA1 (Bl.stays w0) (fun _ h => h) (i := 1) rfl (by kernel_rfl) (by kernel_rfl) (by kernel_rfl) (by kernel_rfl) (fun _ _ _ h => h) (Gives.value (by rfl) ?yA1) ?rA1
    case yA1 => (intro w' hSw; go_simp; try with_reducible rfl)
    (try simp only [Act.put, List.getElem_toArray, List.getElem_cons_zero, List.getElem_cons_succ, List.setIfInBounds_toArray, List.set_cons_zero, List.set_cons_succ])
    refine wpDet_take ?vA2 (Bl.stays w0) (fun _ h => h) (i := 2) rfl (by kernel_rfl) (by kernel_rfl) (by kernel_rfl) (by kernel_rfl) (fun _ _ _ h => h) (Gives.value (by rfl) ?yA2) ?rA2
    case yA2 => (intro w' hSw; go_simp; try with_reducible rfl)
    (try simp only [Act.put, List.getElem_toArray, List.getElem_cons_zero, List.getElem_cons_succ, List.setIfInBounds_toArray, List.set_cons_zero, List.set_cons_succ])
    refine wpDet_take _ (Bl.stays w0) (fun _ h => h) (i := 3) rfl (by kernel_rfl) (by kernel_rfl) (by kernel_rfl) (by kernel_rfl) (fun _ _ _ h => h) (Gives.of_yields (yieldsIf_load_mid (by rfl) _ _ rfl _ _ rfl _ _ (fun W h => range2 (cell_below h q1) (cell_below h q2)) Try.underlying42 rfl sizeC)) ?_
    (try simp only [Act.put, List.getElem_toArray, List.getElem_cons_zero, List.getElem_cons_succ, List.setIfInBounds_toArray, List.set_cons_zero, List.set_cons_succ])
    refine wpDet_take _ (Bl.stays w0) (fun _ h => h) (i := 4) rfl (by kernel_rfl) (by kernel_rfl) (by kernel_rfl) (by kernel_rfl) (fun _ _ _ h => h) (Gives.of_yields (yieldsIf_load_mid (by rfl) _ _ rfl _ _ rfl _ _ (fun W h => range4 (hC4.below h)) Try.underlying23 rfl cmd_info)) ?_
    (try simp only [Act.put, List.getElem_toArray, List.getElem_cons_zero, List.getElem_cons_succ, List.setIfInBounds_toArray, List.set_cons_zero, List.set_cons_succ])
    refine wpDet_ready (rs := [5, 9]) (by kernel_rfl) (by simp) (AllDet.cons rfl (fun V hV K hK => ?_) (AllDet.cons rfl (fun V hV K hK => ?_) AllDet.nil))
    · rw [if_pos (by rfl)]
      have hCv := change_is k nd st ep e px nx cx ms V (hL4.now.1.below hV) hnx E 0 M HE.out HM.out HK.out
      refine wp_enterE 53 #[.agg #[.int .i64 e, .slice px nx cx], .agg #[.int .i64 k, .int .i64 nd, .int .i64 st, .int .i64 ep]] (by first | (go_simp; done) | (go_simp; rfl)) (fun v W => (∃ q cc, v = .tuple #[.agg #[.int .i64 E, .slice q (M : List Mb).length cc], .int .i64 0] ∧ (∀ a, q = some a → 0 < (M : List Mb).length → V.heap.size ≤ a.block) ∧ RdM W q (M : List Mb).length cc M) ∧ Below V.heap.size V W) (hCv.mono fun e' w' hh => by obtain ⟨v, h1, h2, h3⟩ := hh; exact ⟨v, h1, h2, h3⟩) ?_
      rintro v7 V7 ⟨⟨q, cc, rfl, hq, hrq⟩, hb7⟩
      obtain ⟨N, HN⟩ : ∃ N, Hid ((M : List Mb).length = N) := ⟨_, rfl⟩
      rw [HN.out] at hq hrq ⊢
      refine hK.out (Br w0 q N cc M) _ _ (Br.stays w0 _ _ _ _) (fun _ _ h => h.1) ⟨Bl.stays w0 V V7 hV hb7, hrq⟩ ?_
      have hql : ∀ a, q = some a → 0 < N → w0.heap.size ≤ a.block := fun a ha h0 => Nat.le_trans (Bl.out hV).size (hq a ha h0)
      clear hK K hCv hb7 hV hrq hq
      (try simp only [Act.put, List.getElem_toArray, List.getElem_cons_zero, List.getElem_cons_succ, List.setIfInBounds_toArray, List.set_cons_zero, List.set_cons_succ])
      refine wpDet_take ?vB6 (Br.stays w0 _ _ _ _) (fun _ h => h.1) (i := 6) rfl (by kernel_rfl) (by kernel_rfl) (by kernel_rfl) (by kernel_rfl) (fun _ _ _ h => h) (Gives.value (by rfl) ?yB6) ?rB6
      case yB6 => (intro w' hSw; go_simp; try with_reducible rfl)
      (try simp only [Act.put, List.getElem_toArray, List.getElem_cons_zero, List.getElem_cons_succ, List.setIfInBounds_toArray, List.set_cons_zero, List.set_cons_succ])
      refine wpDet_take ?vB7 (Br.stays w0 _ _ _ _) (fun _ h => h.1) (i := 7) rfl (by kernel_rfl) (by kernel_rfl) (by kernel_rfl) (by kernel_rfl) (fun _ _ _ h => h) (Gives.value (by rfl) ?yB7) ?rB7
      case yB7 => (intro w' hSw; go_simp; try with_reducible rfl)
      (try simp only [Act.put, List.getElem_toArray, List.getElem_cons_zero, List.getElem_cons_succ, List.setIfInBounds_toArray, List.set_cons_zero, List.set_cons_succ])
      refine wpDet_take ?vB8 (Br.stays w0 _ _ _ _) (fun _ h => h.1) (i := 8) rfl (by kernel_rfl) (by kernel_rfl) (by kernel_rfl) (by kernel_rfl) (fun _ _ _ h => h) (Gives.value (by rfl) ?yB8) ?rB8
      case yB8 => (intro w' hSw; go_simp; try with_reducible rfl)
      (try simp only [Act.put, List.getElem_toArray, List.getElem_cons_zero, List.getElem_cons_succ, List.setIfInBounds_toArray, List.set_cons_zero, List.set_cons_succ])
      refine wpDet_ready (rs := [9]) (by kernel_rfl) (by simp) (AllDet.cons rfl (fun V hV K hK => ?_) AllDet.nil)
      rw [if_pos (by rfl)]
      refine wp_value (.pointer (some ⟨V.heap.size, 0, none⟩)) (V.alloc (.cells #[.int .i64 0, .slice none 0 0] 42)) (by first | (go_simp; done) | (go_simp; rfl)) ?_
      have hqx : ∀ a, q = some a → 0 < N → a.block ≠ V.heap.size := fun a ha h0 => Nat.ne_of_lt (rd_lt hV.2 ha h0)
      have hxl : w0.heap.size ≤ V.heap.size := (Bl.out hV.1).size
      refine hK.out (fun W => Br w0 q N cc M W ∧ Bx w0 V.heap.size W) _ _ ((Br.stays w0 _ _ _ _).and (Bx.stays w0 _)) (fun _ _ h => h.1.1) ⟨Br.stays w0 _ _ _ _ V _ hV ((Below.refl _ _).alloc (Nat.le_refl _) _), Bl.stays w0 V _ hV.1 ((Below.refl _ _).alloc (Nat.le_refl _) _), heap_alloc_new _ _⟩ ?_
      clear hK K hV
      generalize V.heap.size = x at *
      (try simp only [Act.put, List.getElem_toArray, List.getElem_cons_zero, List.getElem_cons_succ, List.setIfInBounds_toArray, List.set_cons_zero, List.set_cons_succ])
      refine wpDet_ready (rs := [10]) (by kernel_rfl) (by simp) (AllDet.cons rfl (fun V hV K hK => ?_) AllDet.nil)
      rw [if_pos (by rfl)]
      have y0 := cell_row hV.2.2 (j := 0) (v := .int .i64 0) rfl
      have y1 := cell_row hV.2.2 (j := 1) (v := .slice none 0 0) rfl
      have g0 := frozen_of_row V x 0 _ _ hV.2.2
      have g1 := frozen_of_row V x 1 _ _ hV.2.2
      have hth : V.there x 0 2 := fun j hj => by rw [Nat.zero_add]; match j, hj with | 0, _ => exact ⟨by rw [y0]; rfl, g0⟩ | 1, _ => exact ⟨by rw [y1]; rfl, g1⟩
      refine wp_store_mid 42 _ _ rfl x 0 #[.int .i64 E, .slice q N cc] rfl rfl hth sizeC (one2 _ _ _ _) ?_
      have hz : Bz w0.heap.size w0 x E q N cc M ((V.setCell ⟨x, 0, none⟩ (.int .i64 E)).setCell ⟨x, 1, none⟩ (.slice q N cc)) := ⟨Gr.putB (Bl.out hV.1.1) hxl _ _, hV.1.2.put _ _ (fun a ha h0 => hqx a ha h0), two0 y0, two1 y1, by have := (Bl.out hV.1.1).size; simp; omega⟩
      refine hK.out (Bz w0.heap.size w0 x E q N cc M) _ _ (Bz.stays _ _ _ _ _ _ _ _) (fun _ _ h => h.1) hz ?_
      clear hK K hV hth hz y0 y1 g0 g1
      (try simp only [Act.put, List.getElem_toArray, List.getElem_cons_zero, List.getElem_cons_succ, List.setIfInBounds_toArray, List.set_cons_zero, List.set_cons_succ])
      refine wpDet_take ?vC11 (Bz.stays _ _ _ _ _ _ _ _) (fun _ h => h.1) (i := 11) rfl (by kernel_rfl) (by kernel_rfl) (by kernel_rfl) (by kernel_rfl) (fun _ _ _ h => h) (Gives.value (by rfl) ?yC11) ?rC11
      case yC11 => (intro w' hSw; go_simp; try with_reducible rfl)
      (try simp only [Act.put, List.getElem_toArray, List.getElem_cons_zero, List.getElem_cons_succ, List.setIfInBounds_toArray, List.set_cons_zero, List.set_cons_succ])
      refine wpDet_done (by kernel_rfl) (fun W3 hV => ?_) _
      obtain ⟨hb3, rq, z0, z1, hs3⟩ := hV
      have hL5 := hL4.below hb3
      have hE5 := hE4.trans (Ex2.of_below hb3) (Or.inl rfl)
      have hlg : g < w0.heap.size := hL4.blk.lt
      have hlr : r < w0.heap.size := hL4.lr
      clear hL4 hE4 hC4 q0 q1 q2 q3 hS0 HE HM HK
      obtain ⟨q0, q1, q2, q3⟩ := hL5.blk.four
      dsimp only at q0 q1 q2 q3
      go_wp2_with fail
      go_region
      have hL6 := hL5.below ((Below.refl _ _).drew)
      have hE6 := hE5.trans (Ex2.of_below ((Below.refl _ _).drew)) (Or.inl rfl)
      have rq6 := rq.below ((Below.refl _ _).drew)
      have hq6 : ∀ a, q = some a → 0 < N → a.block ≠ r := fun a ha h0 => by have := hql a ha h0; omega
      replace z0 := cell_below ((Below.refl _ _).drew) z0
      replace z1 := cell_below ((Below.refl _ _).drew) z1
      generalize W3.drew = W6 at *
      obtain ⟨r6, hr6⟩ : ∃ z, z = r := ⟨_, rfl⟩
      rw [← hr6] at hL6 hq6
      have hxg : x ≠ g := by omega
      have fz1 := hL6.blk.free 1
      have fz2 := hL6.blk.free 2
      obtain ⟨p0, p1, p2, p3⟩ := hL6.blk.four
      dsimp only at p0 p1 p2 p3
      have hf : (⟨E, q, N, cc, M⟩ : HE).rd W6 g r6 := ⟨rq6, fun a ha h0 => by have := hql a ha h0; exact ⟨by omega, hq6 a ha h0⟩⟩
      have hL7 := hL6.setNow hf
      have hE7 : Ex2 g r w ((W6.setCell ⟨g, 1, none⟩ (.int .i64 E)).setCell ⟨g, 2, none⟩ (.slice q N cc)) := (hE6.setG 1 _).setG 2 _
      clear hL6 hE6 hf q0 q1 q2 q3
      go_wp2_with fail
      go_ret
      exact ⟨rfl, Aft.mk r6 (Or.inl hr6) ⟨bc, _, H, hL7, rfl, hH⟩, hE7⟩
    · rw [if_pos (by rfl)]
      refine wp_value (.pointer (some ⟨V.heap.size, 0, none⟩)) (V.alloc (.cells #[.int .i64 0, .slice none 0 0] 42)) (by first | (go_simp; done) | (go_simp; rfl)) ?_
      have hxl : w0.heap.size ≤ V.heap.size := (Bl.out hV).size
      refine hK.out (Bx w0 V.heap.size) _ _ (Bx.stays w0 _) (fun _ _ h => h.1) ⟨Bl.stays w0 V _ hV ((Below.refl _ _).alloc (Nat.le_refl _) _), heap_alloc_new _ _⟩ ?_
      clear hK K hV
      generalize V.heap.size = x at *
      (try simp only [Act.put, List.getElem_toArray, List.getElem_cons_zero, List.getElem_cons_succ, List.setIfInBounds_toArray, List.set_cons_zero, List.set_cons_succ])
      refine wpDet_ready (rs := [5]) (by kernel_rfl) (by simp) (AllDet.cons rfl (fun V hV K hK => ?_) AllDet.nil)
      rw [if_pos (by rfl)]
      have hCv := change_is k nd st ep e px nx cx ms V (hL4.now.1.below hV.1) hnx E 0 M HE.out HM.out HK.out
      refine wp_enterE 53 #[.agg #[.int .i64 e, .slice px nx cx], .agg #[.int .i64 k, .int .i64 nd, .int .i64 st, .int .i64 ep]] (by first | (go_simp; done) | (go_simp; rfl)) (fun v W => (∃ q cc, v = .tuple #[.agg #[.int .i64 E, .slice q (M : List Mb).length cc], .int .i64 0] ∧ (∀ a, q = some a → 0 < (M : List Mb).length → V.heap.size ≤ a.block) ∧ RdM W q (M : List Mb).length cc M) ∧ Below V.heap.size V W) (hCv.mono fun e' w' hh => by obtain ⟨v, h1, h2, h3⟩ := hh; exact ⟨v, h1, h2, h3⟩) ?_
      rintro v7 V7 ⟨⟨q, cc, rfl, hq, hrq⟩, hb7⟩
      obtain ⟨N, HN⟩ : ∃ N, Hid ((M : List Mb).length = N) := ⟨_, rfl⟩
      rw [HN.out] at hq hrq ⊢
      have hqx : ∀ a, q = some a → 0 < N → a.block ≠ x := fun a ha h0 => Nat.ne_of_gt (Nat.lt_of_lt_of_le (Array.getElem?_eq_some_iff.1 hV.2).1 (hq a ha h0))
      have hql : ∀ a, q = some a → 0 < N → w0.heap.size ≤ a.block := fun a ha h0 => Nat.le_trans (Bl.out hV.1).size (hq a ha h0)
      refine hK.out (fun W => Br w0 q N cc M W ∧ Bx w0 x W) _ _ ((Br.stays w0 _ _ _ _).and (Bx.stays w0 _)) (fun _ _ h => h.1.1) ⟨⟨Bl.stays w0 V V7 hV.1 hb7, hrq⟩, Bx.stays w0 x V V7 hV hb7⟩ ?_
      clear hK K hCv hb7 hV hrq hq
      (try simp only [Act.put, List.getElem_toArray, List.getElem_cons_zero, List.getElem_cons_succ, List.setIfInBounds_toArray, List.set_cons_zero, List.set_cons_succ])
      refine wpDet_take ?vD6 ((Br.stays w0 _ _ _ _).and (Bx.stays w0 _)) (fun _ h => h.1.1) (i := 6) rfl (by kernel_rfl) (by kernel_rfl) (by kernel_rfl) (by kernel_rfl) (fun _ _ _ h => h) (Gives.value (by rfl) ?yD6) ?rD6
      case yD6 => (intro w' hSw; go_simp; try with_reducible rfl)
      (try simp only [Act.put, List.getElem_toArray, List.getElem_cons_zero, List.getElem_cons_succ, List.setIfInBounds_toArray, List.set_cons_zero, List.set_cons_succ])
      refine wpDet_take ?vD7 ((Br.stays w0 _ _ _ _).and (Bx.stays w0 _)) (fun _ h => h.1.1) (i := 7) rfl (by kernel_rfl) (by kernel_rfl) (by kernel_rfl) (by kernel_rfl) (fun _ _ _ h => h) (Gives.value (by rfl) ?yD7) ?rD7
      case yD7 => (intro w' hSw; go_simp; try with_reducible rfl)
      (try simp only [Act.put, List.getElem_toArray, List.getElem_cons_zero, List.getElem_cons_succ, List.setIfInBounds_toArray, List.set_cons_zero, List.set_cons_succ])
      refine wpDet_take ?vD8 ((Br.stays w0 _ _ _ _).and (Bx.stays w0 _)) (fun _ h => h.1.1) (i := 8) rfl (by kernel_rfl) (by kernel_rfl) (by kernel_rfl) (by kernel_rfl) (fun _ _ _ h => h) (Gives.value (by rfl) ?yD8) ?rD8
      case yD8 => (intro w' hSw; go_simp; try with_reducible rfl)
      (try simp only [Act.put, List.getElem_toArray, List.getElem_cons_zero, List.getElem_cons_succ, List.setIfInBounds_toArray, List.set_cons_zero, List.set_cons_succ])
      refine wpDet_ready (rs := [10]) (by kernel_rfl) (by simp) (AllDet.cons rfl (fun V hV K hK => ?_) AllDet.nil)
      rw [if_pos (by rfl)]
      have y0 := cell_row hV.2.2 (j := 0) (v := .int .i64 0) rfl
      have y1 := cell_row hV.2.2 (j := 1) (v := .slice none 0 0) rfl
      have g0 := frozen_of_row V x 0 _ _ hV.2.2
      have g1 := frozen_of_row V x 1 _ _ hV.2.2
      have hth : V.there x 0 2 := fun j hj => by rw [Nat.zero_add]; match j, hj with | 0, _ => exact ⟨by rw [y0]; rfl, g0⟩ | 1, _ => exact ⟨by rw [y1]; rfl, g1⟩
      refine wp_store_mid 42 _ _ rfl x 0 #[.int .i64 E, .slice q N cc] rfl rfl hth sizeC (one2 _ _ _ _) ?_
      have hz : Bz w0.heap.size w0 x E q N cc M ((V.setCell ⟨x, 0, none⟩ (.int .i64 E)).setCell ⟨x, 1, none⟩ (.slice q N cc)) := ⟨Gr.putB (Bl.out hV.1.1) hxl _ _, hV.1.2.put _ _ (fun a ha h0 => hqx a ha h0), two0 y0, two1 y1, by have := (Bl.out hV.1.1).size; simp; omega⟩
      refine hK.out (Bz w0.heap.size w0 x E q N cc M) _ _ (Bz.stays _ _ _ _ _ _ _ _) (fun _ _ h => h.1) hz ?_
      clear hK K hV hth hz y0 y1 g0 g1
      (try simp only [Act.put, List.getElem_toArray, List.getElem_cons_zero, List.getElem_cons_succ, List.setIfInBounds_toArray, List.set_cons_zero, List.set_cons_succ])
      refine wpDet_take ?vE11 (Bz.stays _ _ _ _ _ _ _ _) (fun _ h => h.1) (i := 11) rfl (by kernel_rfl) (by kernel_rfl) (by kernel_rfl) (by kernel_rfl) (fun _ _ _ h => h) (Gives.value (by rfl) ?yE11) ?rE11
      case yE11 => (intro w' hSw; go_simp; try with_reducible rfl)
      (try simp only [Act.put, List.getElem_toArray, List.getElem_cons_zero, List.getElem_cons_succ, List.setIfInBounds_toArray, List.set_cons_zero, List.set_cons_succ])
      refine wpDet_done (by kernel_rfl) (fun W3 hV => ?_) _
      obtain ⟨hb3, rq, z0, z1, hs3⟩ := hV
      have hL5 := hL4.below hb3
      have hE5 := hE4.trans (Ex2.of_below hb3) (Or.inl rfl)
      have hlg : g < w0.heap.size := hL4.blk.lt
      have hlr : r < w0.heap.size := hL4.lr
      clear hL4 hE4 hC4 q0 q1 q2 q3 hS0 HE HM HK
      obtain ⟨q0, q1, q2, q3⟩ := hL5.blk.four
      dsimp only at q0 q1 q2 q3
      go_wp2_with fail
      go_region
      have hL6 := hL5.below ((Below.refl _ _).drew)
      have hE6 := hE5.trans (Ex2.of_below ((Below.refl _ _).drew)) (Or.inl rfl)
      have rq6 := rq.below ((Below.refl _ _).drew)
      have hq6 : ∀ a, q = some a → 0 < N → a.block ≠ r := fun a ha h0 => by have := hql a ha h0; omega
      replace z0 := cell_below ((Below.refl _ _).drew) z0
      replace z1 := cell_below ((Below.refl _ _).drew) z1
      generalize W3.drew = W6 at *
      obtain ⟨r6, hr6⟩ : ∃ z, z = r := ⟨_, rfl⟩
      rw [← hr6] at hL6 hq6
      have hxg : x ≠ g := by omega
      have fz1 := hL6.blk.free 1
      have fz2 := hL6.blk.free 2
      obtain ⟨p0, p1, p2, p3⟩ := hL6.blk.four
      dsimp only at p0 p1 p2 p3
      have hf : (⟨E, q, N, cc, M⟩ : HE).rd W6 g r6 := ⟨rq6, fun a ha h0 => by have := hql a ha h0; exact ⟨by omega, hq6 a ha h0⟩⟩
      have hL7 := hL6.setNow hf
      have hE7 : Ex2 g r w ((W6.setCell ⟨g, 1, none⟩ (.int .i64 E)).setCell ⟨g, 2, none⟩ (.slice q N cc)) := (hE6.setG 1 _).setG 2 _
      clear hL6 hE6 hf q0 q1 q2 q3
      go_wp2_with fail
      go_ret
      exact ⟨rfl, Aft.mk r6 (Or.inl hr6) ⟨bc, _, H, hL7, rfl, hH⟩, hE7⟩

set_option linter.unusedSimpArgs false in
set_option maxRecDepth 20000 in
set_option maxHeartbeats 4000000 in
theorem Apply_new (g r : Nat) (s : PL) (w : World) (h : LP w g r s) (i : Int) (p : Option Addr) (n c : Nat) (xs : List Int) (hr : Rd .u8 w p n c xs) (hxb : By xs) (hn : n ≤ 1099511627776) (h0 : 0 < n) (ha : -9223372036854775808 ≤ s.at_) (hi : i = s.at_ + 1 ∧ i ≤ 1099511627776)
    (hms : s.ms.length ≤ 5864062014805) (hHl : s.H.length ≤ 1099511627776) (k nd st ep : Int) (hR : getR xs = some (k, nd, st, ep)) (hep : ep = s.e) (E : Int) (M : List Mb) (hc : chR k nd st s.e s.ms = .ok (E, M)) (hlt : s.e < E) :
    Calls Try.prog 27 #[.pointer (some ⟨g, 0, none⟩), .int .i64 i, .slice p n c] w fun o w' => o = .returned (.int .i64 0) ∧ Aft w w' g r ⟨E, M, i, s.H ++ [(E, M)]⟩ ∧ Ex2 g r w w' := by
  obtain ⟨bc, x, H, hL, hx, hH⟩ := h
  have hm := made_yes g r bc x s.at_ H w hL
  obtain ⟨q0, q1, q2, q3⟩ := hL.blk.four
  have f3 := hL.blk.free 3
  have he0 : Ex g w (w.setCell ⟨g, 3, none⟩ (.int .i64 i)) := (Ex.refl _ _).setCell 3 _
  have hE : Ex2 g r w (w.setCell ⟨g, 3, none⟩ (.int .i64 i)) := (Ex2.refl _ _ _).setG 3 _
  have hL1 := hL.setAt i
  have hG := Get_any p n c xs _ (hr.ex he0 (rd_far hL hr)) hxb hn
  have hc1 : IntKind.i64.wrap (s.at_ + 1) = s.at_ + 1 := by rw [IntKind.wrap_i64]; omega
  have d1 : (i != s.at_ + 1) = false := by simp [hi.1]
  have d2 : decide ((1099511627776 : Int) < i) = false := decide_eq_false (by omega)
  have d3 : ((n : Int) == 0) = false := by rw [beq_eq_false_iff_ne]; omega
  have hsz : (w.setCell ⟨g, 3, none⟩ (.int .i64 i)).heap.size = w.heap.size := by simp [World.setCell]
  rw [hR] at hG
  unfold getV at hG
  obtain ⟨e, px, nx, cx, ms⟩ := x
  obtain ⟨Se, Sm, Sa, SH⟩ := s
  dsimp only [HE.ch] at *
  injection hx with hx1 hx2
  subst hx1
  subst hx2
  clear hi hL ha hr he0 hR
  go_enter Try.func27, Try.ntmps27
  go_wp2_with fail
  refine hm.mono ?_
  rintro o w1 ⟨rfl, hw⟩
  subst w1
  go_wp2_with fail
  refine hG.mono ?_
  rintro o w2 ⟨rfl, hb2⟩
  have hL2 := hL1.below hb2
  have hE2 : Ex2 g r w w2 := hE.trans (Ex2.of_below hb2) (Or.inl rfl)
  clear hG hm q0 q1 q2 q3 f3 hE hL1 hb2 hsz d1 d2 d3 hc1
  · skip
    have hba := below_alloc w2 (.cells #[.int .i64 k, .int .i64 nd, .int .i64 st, .int .i64 ep] 23)
    have hC := At.new 23 w2 #[.int .i64 k, .int .i64 nd, .int .i64 st, .int .i64 ep]
    have hL3 := hL2.below hba
    have hE3 : Ex2 g r w _ := hE2.trans (Ex2.of_below hba) (Or.inl rfl)
    obtain ⟨q0, q1, q2, q3⟩ := hL3.blk.four
    obtain ⟨c0, c1, c2, c3⟩ := hC.four
    have hle : w.heap.size ≤ w2.heap.size := hE2.size
    have hsz3 : (w2.alloc (.cells #[.int .i64 k, .int .i64 nd, .int .i64 st, .int .i64 ep] 23)).heap.size = w2.heap.size + 1 := by simp
    dsimp only at q0 q1 q2 q3
    clear hL2 hE2 hba
    have d1 : (ep != e) = false := by simp [hep]
    have HE : Hid (CRe (chR k nd st e ms) = E) := by unfold Hid; rw [hc]; rfl
    have HM : Hid (CRm (chR k nd st e ms) = M) := by unfold Hid; rw [hc]; rfl
    have HK : Hid (CRk (chR k nd st e ms) = 0) := by unfold Hid; rw [hc]; rfl
    have hltd : decide (e < E) = true := by simpa using hlt
    have hnx : nx ≤ 5864062014805 := by have := hL3.now.1.len; dsimp only at this; omega
    have hHl2 : H.length ≤ 1099511627776 := by rw [← hH, List.length_map] at hHl; exact hHl
    obtain ⟨i0, hi0, hz0, hz1, hz2⟩ := info_parts infoCh
    clear hep hc
    go_wp2_with fail
    go_region
    go_wp2_with fail
    have hL4 := hL3.below ((Below.refl _ _).drew)
    have hE4 := hE3.trans (Ex2.of_below ((Below.refl _ _).drew)) (Or.inl rfl)
    have hC4 := hC.below ((Below.refl _ _).drew)
    have hs4 : (w2.alloc (.cells #[.int .i64 k, .int .i64 nd, .int .i64 st, .int .i64 ep] 23)).drew.heap.size = w2.heap.size + 1 := by simp
    clear hL3 hE3 hC q0 q1 q2 q3 c0 c1 c2 c3 hsz3
    generalize (w2.alloc (.cells #[.int .i64 k, .int .i64 nd, .int .i64 st, .int .i64 ep] 23)).drew = w0 at *
    generalize w2.heap.size = b4 at *
    obtain ⟨q0, q1, q2, q3⟩ := hL4.blk.four
    dsimp only at q0 q1 q2 q3
    have hS0 : Bl w0 w0.drew := (Below.refl _ _).drew
    refine wp_region_det [0, 1, 2, 3, 4, 6, 7, 8, 11] (Bl w0) (Bl w0) (by kernel_rfl) hS0 ?_
    refine wpDet_take ?vA0 (Bl.stays w0) (fun _ h => h) (i := 0) rfl (by kernel_rfl) (by kernel_rfl) (by kernel_rfl) (by kernel_rfl) (fun _ _ _ h => h) (Gives.value (by rfl) ?yA0) ?rA0
    case yA0 => (intro w' hSw; go_simp; try with_reducible rfl)
    (try simp only [Act.put, List.getElem_toArray, List.getElem_cons_zero, List.getElem_cons_succ, List.setIfInBounds_toArray, List.set_cons_zero, List.set_cons_succ])
    refine wpDet_take ?vA1 (Bl.stays w0) (fun _ h => h) (i := 1) rfl (by kernel_rfl) (by kernel_rfl) (by kernel_rfl) (by kernel_rfl) (fun _ _ _ h => h) (Gives.value (by rfl) ?yA1) ?rA1
    case yA1 => (intro w' hSw; go_simp; try with_reducible rfl)
    (try simp only [Act.put, List.getElem_toArray, List.getElem_cons_zero, List.getElem_cons_succ, List.setIfInBounds_toArray, List.set_cons_zero, List.set_cons_succ])
    refine wpDet_take ?vA2 (Bl.stays w0) (fun _ h => h) (i := 2) rfl (by kernel_rfl) (by kernel_rfl) (by kernel_rfl) (by kernel_rfl) (fun _ _ _ h => h) (Gives.value (by rfl) ?yA2) ?rA2
    case yA2 => (intro w' hSw; go_simp; try with_reducible rfl)
    (try simp only [Act.put, List.getElem_toArray, List.getElem_cons_zero, List.getElem_cons_succ, List.setIfInBounds_toArray, List.set_cons_zero, List.set_cons_succ])
    refine wpDet_take _ (Bl.stays w0) (fun _ h => h) (i := 3) rfl (by kernel_rfl) (by kernel_rfl) (by kernel_rfl) (by kernel_rfl) (fun _ _ _ h => h) (Gives.of_yields (yieldsIf_load_mid (by rfl) _ _ rfl _ _ rfl _ _ (fun W h => range2 (cell_below h q1) (cell_below h q2)) Try.underlying42 rfl sizeC)) ?_
    (try simp only [Act.put, List.getElem_toArray, List.getElem_cons_zero, List.getElem_cons_succ, List.setIfInBounds_toArray, List.set_cons_zero, List.set_cons_succ])
    refine wpDet_take _ (Bl.stays w0) (fun _ h => h) (i := 4) rfl (by kernel_rfl) (by kernel_rfl) (by kernel_rfl) (by kernel_rfl) (fun _ _ _ h => h) (Gives.of_yields (yieldsIf_load_mid (by rfl) _ _ rfl _ _ rfl _ _ (fun W h => range4 (hC4.below h)) Try.underlying23 rfl cmd_info)) ?_
    (try simp only [Act.put, List.getElem_toArray, List.getElem_cons_zero, List.getElem_cons_succ, List.setIfInBounds_toArray, List.set_cons_zero, List.set_cons_succ])
    refine wpDet_ready (rs := [5, 9]) (by kernel_rfl) (by simp) (AllDet.cons rfl (fun V hV K hK => ?_) (AllDet.cons rfl (fun V hV K hK => ?_) AllDet.nil))
    · rw [if_pos (by rfl)]
      have hCv := change_is k nd st ep e px nx cx ms V (hL4.now.1.below hV) hnx E 0 M HE.out HM.out HK.out
      refine wp_enterE 53 #[.agg #[.int .i64 e, .slice px nx cx], .agg #[.int .i64 k, .int .i64 nd, .int .i64 st, .int .i64 ep]] (by first | (go_simp; done) | (go_simp; rfl)) (fun v W => (∃ q cc, v = .tuple #[.agg #[.int .i64 E, .slice q (M : List Mb).length cc], .int .i64 0] ∧ (∀ a, q = some a → 0 < (M : List Mb).length → V.heap.size ≤ a.block) ∧ RdM W q (M : List Mb).length cc M) ∧ Below V.heap.size V W) (hCv.mono fun e' w' hh => by obtain ⟨v, h1, h2, h3⟩ := hh; exact ⟨v, h1, h2, h3⟩) ?_
      rintro v7 V7 ⟨⟨q, cc, rfl, hq, hrq⟩, hb7⟩
      obtain ⟨N, HN⟩ : ∃ N, Hid ((M : List Mb).length = N) := ⟨_, rfl⟩
      rw [HN.out] at hq hrq ⊢
      refine hK.out (Br w0 q N cc M) _ _ (Br.stays w0 _ _ _ _) (fun _ _ h => h.1) ⟨Bl.stays w0 V V7 hV hb7, hrq⟩ ?_
      have hql : ∀ a, q = some a → 0 < N → w0.heap.size ≤ a.block := fun a ha h0 => Nat.le_trans (Bl.out hV).size (hq a ha h0)
      clear hK K hCv hb7 hV hrq hq
      (try simp only [Act.put, List.getElem_toArray, List.getElem_cons_zero, List.getElem_cons_succ, List.setIfInBounds_toArray, List.set_cons_zero, List.set_cons_succ])
      refine wpDet_take ?vB6 (Br.stays w0 _ _ _ _) (fun _ h => h.1) (i := 6) rfl (by kernel_rfl) (by kernel_rfl) (by kernel_rfl) (by kernel_rfl) (fun _ _ _ h => h) (Gives.value (by rfl) ?yB6) ?rB6
      case yB6 => (intro w' hSw; go_simp; try with_reducible rfl)
      (try simp only [Act.put, List.getElem_toArray, List.getElem_cons_zero, List.getElem_cons_succ, List.setIfInBounds_toArray, List.set_cons_zero, List.set_cons_succ])
      refine wpDet_take ?vB7 (Br.stays w0 _ _ _ _) (fun _ h => h.1) (i := 7) rfl (by kernel_rfl) (by kernel_rfl) (by kernel_rfl) (by kernel_rfl) (fun _ _ _ h => h) (Gives.value (by rfl) ?yB7) ?rB7
      case yB7 => (intro w' hSw; go_simp; try with_reducible rfl)
      (try simp only [Act.put, List.getElem_toArray, List.getElem_cons_zero, List.getElem_cons_succ, List.setIfInBounds_toArray, List.set_cons_zero, List.set_cons_succ])
      refine wpDet_take ?vB8 (Br.stays w0 _ _ _ _) (fun _ h => h.1) (i := 8) rfl (by kernel_rfl) (by kernel_rfl) (by kernel_rfl) (by kernel_rfl) (fun _ _ _ h => h) (Gives.value (by rfl) ?yB8) ?rB8
      case yB8 => (intro w' hSw; go_simp; try with_reducible rfl)
      (try simp only [Act.put, List.getElem_toArray, List.getElem_cons_zero, List.getElem_cons_succ, List.setIfInBounds_toArray, List.set_cons_zero, List.set_cons_succ])
      refine wpDet_ready (rs := [9]) (by kernel_rfl) (by simp) (AllDet.cons rfl (fun V hV K hK => ?_) AllDet.nil)
      rw [if_pos (by rfl)]
      refine wp_value (.pointer (some ⟨V.heap.size, 0, none⟩)) (V.alloc (.cells #[.int .i64 0, .slice none 0 0] 42)) (by first | (go_simp; done) | (go_simp; rfl)) ?_
      have hqx : ∀ a, q = some a → 0 < N → a.block ≠ V.heap.size := fun a ha h0 => Nat.ne_of_lt (rd_lt hV.2 ha h0)
      have hxl : w0.heap.size ≤ V.heap.size := (Bl.out hV.1).size
      refine hK.out (fun W => Br w0 q N cc M W ∧ Bx w0 V.heap.size W) _ _ ((Br.stays w0 _ _ _ _).and (Bx.stays w0 _)) (fun _ _ h => h.1.1) ⟨Br.stays w0 _ _ _ _ V _ hV ((Below.refl _ _).alloc (Nat.le_refl _) _), Bl.stays w0 V _ hV.1 ((Below.refl _ _).alloc (Nat.le_refl _) _), heap_alloc_new _ _⟩ ?_
      clear hK K hV
      generalize V.heap.size = x at *
      (try simp only [Act.put, List.getElem_toArray, List.getElem_cons_zero, List.getElem_cons_succ, List.setIfInBounds_toArray, List.set_cons_zero, List.set_cons_succ])
      refine wpDet_ready (rs := [10]) (by kernel_rfl) (by simp) (AllDet.cons rfl (fun V hV K hK => ?_) AllDet.nil)
      rw [if_pos (by rfl)]
      have y0 := cell_row hV.2.2 (j := 0) (v := .int .i64 0) rfl
      have y1 := cell_row hV.2.2 (j := 1) (v := .slice none 0 0) rfl
      have g0 := frozen_of_row V x 0 _ _ hV.2.2
      have g1 := frozen_of_row V x 1 _ _ hV.2.2
      have hth : V.there x 0 2 := fun j hj => by rw [Nat.zero_add]; match j, hj with | 0, _ => exact ⟨by rw [y0]; rfl, g0⟩ | 1, _ => exact ⟨by rw [y1]; rfl, g1⟩
      refine wp_store_mid 42 _ _ rfl x 0 #[.int .i64 E, .slice q N cc] rfl rfl hth sizeC (one2 _ _ _ _) ?_
      have hz : Bz w0.heap.size w0 x E q N cc M ((V.setCell ⟨x, 0, none⟩ (.int .i64 E)).setCell ⟨x, 1, none⟩ (.slice q N cc)) := ⟨Gr.putB (Bl.out hV.1.1) hxl _ _, hV.1.2.put _ _ (fun a ha h0 => hqx a ha h0), two0 y0, two1 y1, by have := (Bl.out hV.1.1).size; simp; omega⟩
      refine hK.out (Bz w0.heap.size w0 x E q N cc M) _ _ (Bz.stays _ _ _ _ _ _ _ _) (fun _ _ h => h.1) hz ?_
      clear hK K hV hth hz y0 y1 g0 g1
      (try simp only [Act.put, List.getElem_toArray, List.getElem_cons_zero, List.getElem_cons_succ, List.setIfInBounds_toArray, List.set_cons_zero, List.set_cons_succ])
      refine wpDet_take ?vC11 (Bz.stays _ _ _ _ _ _ _ _) (fun _ h => h.1) (i := 11) rfl (by kernel_rfl) (by kernel_rfl) (by kernel_rfl) (by kernel_rfl) (fun _ _ _ h => h) (Gives.value (by rfl) ?yC11) ?rC11
      case yC11 => (intro w' hSw; go_simp; try with_reducible rfl)
      (try simp only [Act.put, List.getElem_toArray, List.getElem_cons_zero, List.getElem_cons_succ, List.setIfInBounds_toArray, List.set_cons_zero, List.set_cons_succ])
      refine wpDet_done (by kernel_rfl) (fun W3 hV => ?_) _
      obtain ⟨hb3, rq, z0, z1, hs3⟩ := hV
      have hL5 := hL4.below hb3
      have hE5 := hE4.trans (Ex2.of_below hb3) (Or.inl rfl)
      have hlg : g < w0.heap.size := hL4.blk.lt
      have hlr : r < w0.heap.size := hL4.lr
      clear hL4 hE4 hC4 q0 q1 q2 q3 hS0 HE HM HK
      obtain ⟨q0, q1, q2, q3⟩ := hL5.blk.four
      dsimp only at q0 q1 q2 q3
      go_wp2_with fail
      go_region
      go_wp2_with fail
      have hL6 := hL5.below ((Below.refl _ _).drew)
      have hE6 := hE5.trans (Ex2.of_below ((Below.refl _ _).drew)) (Or.inl rfl)
      have rq6 := rq.below ((Below.refl _ _).drew)
      replace z0 := cell_below ((Below.refl _ _).drew) z0
      replace z1 := cell_below ((Below.refl _ _).drew) z1
      have hxl6 : w0.heap.size ≤ W3.drew.heap.size := hb3.size
      clear q0 q1 q2 q3 hL5 hE5 rq hb3 hs3
      generalize W3.drew = w5 at *
      obtain ⟨q0, q1, q2, q3⟩ := hL6.blk.four
      dsimp only at q0 q1 q2 q3
      have hS5 : Bl w5 w5.drew := (Below.refl _ _).drew
      have hC0 : ∀ W, Bl w5 W → C0 g r H.length bc x E q N cc W := fun W h => ⟨cell_below h q0, cell_below h z0, cell_below h z1⟩
      refine wp_region_det [0, 1, 2, 3, 4, 5, 6] (C0 g r H.length bc x E q N cc) (Bl w5) (by kernel_rfl) hS5 ?_
      refine wpDet_take ?vAn0 (Bl.stays w5) (fun W h => hC0 W h) (i := 0) rfl (by kernel_rfl) (by kernel_rfl) (by kernel_rfl) (by kernel_rfl) (fun _ _ _ h => h) (Gives.value (by rfl) ?yAn0) ?rAn0
      case yAn0 => (intro w' hSw; go_simp; try with_reducible rfl)
      (try simp only [Act.put, List.getElem_toArray, List.getElem_cons_zero, List.getElem_cons_succ, List.setIfInBounds_toArray, List.set_cons_zero, List.set_cons_succ])
      refine wpDet_take ?vAn1 (Bl.stays w5) (fun W h => hC0 W h) (i := 1) rfl (by kernel_rfl) (by kernel_rfl) (by kernel_rfl) (by kernel_rfl) (fun _ _ _ h => h) (Gives.value (by rfl) ?yAn1) ?rAn1
      case yAn1 => (intro w' hSw; go_simp; try with_reducible rfl)
      (try simp only [Act.put, List.getElem_toArray, List.getElem_cons_zero, List.getElem_cons_succ, List.setIfInBounds_toArray, List.set_cons_zero, List.set_cons_succ])
      refine wpDet_take ?vAn2 (Bl.stays w5) (fun W h => hC0 W h) (i := 2) rfl (by kernel_rfl) (by kernel_rfl) (by kernel_rfl) (by kernel_rfl) (fun _ _ _ h => h) (Gives.value (by rfl) ?yAn2) ?rAn2
      case yAn2 => (intro w' hSw; go_simp; try with_reducible rfl)
      (try simp only [Act.put, List.getElem_toArray, List.getElem_cons_zero, List.getElem_cons_succ, List.setIfInBounds_toArray, List.set_cons_zero, List.set_cons_succ])
      refine wpDet_take ?vAn3 (Bl.stays w5) (fun W h => hC0 W h) (i := 3) rfl (by kernel_rfl) (by kernel_rfl) (by kernel_rfl) (by kernel_rfl) (fun _ _ _ h => h) (Gives.value (by rfl) ?yAn3) ?rAn3
      case yAn3 => (intro w' hSw; go_simp; try with_reducible rfl)
      (try simp only [Act.put, List.getElem_toArray, List.getElem_cons_zero, List.getElem_cons_succ, List.setIfInBounds_toArray, List.set_cons_zero, List.set_cons_succ])
      refine wpDet_take ?vAn4 (Bl.stays w5) (fun W h => hC0 W h) (i := 4) rfl (by kernel_rfl) (by kernel_rfl) (by kernel_rfl) (by kernel_rfl) (fun _ _ _ h => h) (Gives.value (by rfl) ?yAn4) ?rAn4
      case yAn4 => (intro w' hSw; go_simp; try with_reducible rfl)
      (try simp only [Act.put, List.getElem_toArray, List.getElem_cons_zero, List.getElem_cons_succ, List.setIfInBounds_toArray, List.set_cons_zero, List.set_cons_succ])
      refine wpDet_take ?vAn5 (Bl.stays w5) (fun W h => hC0 W h) (i := 5) rfl (by kernel_rfl) (by kernel_rfl) (by kernel_rfl) (by kernel_rfl) (fun _ _ _ h => h) (Gives.value (by rfl) ?yAn5) ?rAn5
      case yAn5 => (intro w' hSw; have h5 := hSw.1; go_simp; try with_reducible rfl)
      (try simp only [Act.put, List.getElem_toArray, List.getElem_cons_zero, List.getElem_cons_succ, List.setIfInBounds_toArray, List.set_cons_zero, List.set_cons_succ])
      refine wpDet_take _ (Bl.stays w5) (fun W h => hC0 W h) (i := 6) rfl (by kernel_rfl) (by kernel_rfl) (by kernel_rfl) (by kernel_rfl) (fun _ _ _ h => h) (Gives.of_yields (yieldsIf_load_mid (by rfl) _ _ rfl _ _ rfl _ _ (fun W h => range2 h.2.1 h.2.2) Try.underlying42 rfl sizeC)) ?_
      (try simp only [Act.put, List.getElem_toArray, List.getElem_cons_zero, List.getElem_cons_succ, List.setIfInBounds_toArray, List.set_cons_zero, List.set_cons_succ])
      refine wpDet_ready (rs := [7]) (by kernel_rfl) (by simp) (AllDet.cons rfl (fun V hV K hK => ?_) AllDet.nil)
      rw [if_pos (by rfl)]
      refine wp_value (.slice (some ⟨V.heap.size, 0, none⟩) 1 1) (V.alloc (.cells #[.int .i64 E, .slice q N cc] 42)) (by first | (go_simp; done) | (go_simp; rfl)) ?_
      refine hK.out (fun W => Bl w5 W ∧ At 42 W V.heap.size #[.int .i64 E, .slice q N cc]) _ _ ((Bl.stays w5).and (fun _ _ h hb => h.below hb)) (fun _ W h => hC0 W h.1) ⟨Bl.stays w5 V _ hV (below_alloc _ _), At.new _ _ _⟩ ?_
      clear hK K hV
      generalize V.heap.size = y at *
      (try simp only [Act.put, List.getElem_toArray, List.getElem_cons_zero, List.getElem_cons_succ, List.setIfInBounds_toArray, List.set_cons_zero, List.set_cons_succ])
      refine wpDet_ready (rs := [8]) (by kernel_rfl) (by simp) (AllDet.cons rfl (fun V hV K hK => ?_) AllDet.nil)
      rw [if_pos (by rfl)]
      obtain ⟨a0, a1⟩ := hV.2.two
      have hLV := hL6.below hV.1
      have hxV : x < V.heap.size := World.block_lt_of_cell? _ _ (hC0 V hV.1).2.1
      have hEV : Ex2 g r w V := hE6.trans (Ex2.of_below hV.1) (Or.inl rfl)
      have hrV := rq6.below hV.1
      have hVl : w0.heap.size ≤ V.heap.size := Nat.le_trans hxl6 (Bl.out hV.1).size
      obtain ⟨r6, bc6, V6, hrun, hown, hgw⟩ := run_appC V 78 i0 (.agg #[.int .i64 0, .slice none 0 0]) hi0 hz0 hz1 hz2 rfl r bc H hLV.row y 1 ⟨E, q, N, cc, M⟩ a0 a1 hHl2
      have hcV := hC0 V hV.1
      refine wp_app _ _ _ rfl _ _ rfl rfl _ V6 hrun ?_
      have hxr : x ≠ r := by omega
      have hxg : x ≠ g := by omega
      have hgr : g ≠ r := fun h => hLV.ne h.symm
      have hne6 : ∀ b j v, b ≠ r → V.cell? ⟨b, j, none⟩ = some v → V6.cell? ⟨b, j, none⟩ = some v := fun b j v hb hc => (World.cell?_of_block ((hgw.ex2 (g := V.heap.size)).block b (World.block_lt_of_cell? _ _ hc) (Nat.ne_of_lt (World.block_lt_of_cell? _ _ hc)) hb)).trans hc
      have hC6 : C0 g r H.length bc x E q N cc V6 := ⟨hne6 _ _ _ hgr hcV.1, hne6 _ _ _ hxr hcV.2.1, hne6 _ _ _ hxr hcV.2.2⟩
      refine hK.out (Bl V6) _ _ (Bl.stays V6) (fun _ W h => ⟨cell_below h hC6.1, cell_below h hC6.2.1, cell_below h hC6.2.2⟩) (Below.refl _ _) ?_
      clear hK K hV hrun a0 a1 hC0
      (try simp only [Act.put, List.getElem_toArray, List.getElem_cons_zero, List.getElem_cons_succ, List.setIfInBounds_toArray, List.set_cons_zero, List.set_cons_succ])
      generalize hVV : V = Va at *
      refine wpDet_ready (rs := [9]) (by kernel_rfl) (by simp) (AllDet.cons rfl (fun V hV K hK => ?_) AllDet.nil)
      rw [if_pos (by rfl)]
      refine wp_value (.pointer (some ⟨g, 0, none⟩)) V (by first | (go_simp; done) | (go_simp; rfl)) ?_
      refine hK.out (Bl V6) _ _ (Bl.stays V6) (fun _ => (fun W h => ⟨cell_below h hC6.1, cell_below h hC6.2.1, cell_below h hC6.2.2⟩)) hV ?_
      clear hK K hV
      (try simp only [Act.put, List.getElem_toArray, List.getElem_cons_zero, List.getElem_cons_succ, List.setIfInBounds_toArray, List.set_cons_zero, List.set_cons_succ])
      refine wpDet_ready (rs := [10]) (by kernel_rfl) (by simp) (AllDet.cons rfl (fun V hV K hK => ?_) AllDet.nil)
      rw [if_pos (by rfl)]
      refine wp_value (.pointer (some ⟨g, 0, none⟩)) V (by first | (go_simp; done) | (go_simp; rfl)) ?_
      refine hK.out (Bl V6) _ _ (Bl.stays V6) (fun _ => (fun W h => ⟨cell_below h hC6.1, cell_below h hC6.2.1, cell_below h hC6.2.2⟩)) hV ?_
      clear hK K hV
      (try simp only [Act.put, List.getElem_toArray, List.getElem_cons_zero, List.getElem_cons_succ, List.setIfInBounds_toArray, List.set_cons_zero, List.set_cons_succ])
      refine wpDet_ready (rs := [11]) (by kernel_rfl) (by simp) (AllDet.cons rfl (fun V hV K hK => ?_) AllDet.nil)
      rw [if_pos (by rfl)]
      refine wp_value (.pointer (some ⟨g, 0, none⟩)) V (by first | (go_simp; done) | (go_simp; rfl)) ?_
      refine hK.out (Bl V6) _ _ (Bl.stays V6) (fun _ => (fun W h => ⟨cell_below h hC6.1, cell_below h hC6.2.1, cell_below h hC6.2.2⟩)) hV ?_
      clear hK K hV
      (try simp only [Act.put, List.getElem_toArray, List.getElem_cons_zero, List.getElem_cons_succ, List.setIfInBounds_toArray, List.set_cons_zero, List.set_cons_succ])
      refine wpDet_ready (rs := [12]) (by kernel_rfl) (by simp) (AllDet.cons rfl (fun V hV K hK => ?_) AllDet.nil)
      rw [if_pos (by rfl)]
      have hg2 := hgw.below hV
      have hLn := hLV.grew hg2 (owns_below hown hV) (⟨hrV, fun a ha h0 => by have := hql a ha h0; exact ⟨by show a.block ≠ g; omega, by show a.block ≠ r; omega⟩⟩ : (⟨E, q, N, cc, M⟩ : HE).rd Va g r)
      have u0 := cell_below hV hC6.1
      have hfz : V.frozen? ⟨g, 0, none⟩ = false := by have := hLn.blk.free 0; simpa [World.frozen?_setCell] using this
      refine wp_store_slice _ _ _ rfl g 0 (some ⟨r6, 0, none⟩) (H.length + 1) bc6 _ rfl rfl sizeSlC u0 hfz ?_
      have hz : S4 Va g r r6 bc6 ⟨e, px, nx, cx, ms⟩ i (H ++ [⟨E, q, N, cc, M⟩]) x E q N cc M (V.setCell ⟨g, 0, none⟩ (.slice (some ⟨r6, 0, none⟩) (H.length + 1) bc6)) := ⟨hLn, (hg2.ex2 (g := g)).setG 0 _, by rw [World.cell?_setCell_other (h := fun h => hxg (congrArg Addr.block h).symm)]; exact cell_below hV hC6.2.1, by rw [World.cell?_setCell_other (h := fun h => hxg (congrArg Addr.block h).symm)]; exact cell_below hV hC6.2.2, (hrV.ex2 (hg2.ex2 (g := g)) (fun a ha h0 => by have := hql a ha h0; exact ⟨by omega, by omega⟩)).set1 _ (fun a ha h0 => by have := hql a ha h0; omega)⟩
      refine hK.out (S4 Va g r r6 bc6 ⟨e, px, nx, cx, ms⟩ i (H ++ [⟨E, q, N, cc, M⟩]) x E q N cc M) _ _ (S4.stays _ _ _ _ _ _ _ _ _ _ _ _ _ _) (no_lean (by kernel_rfl)) hz ?_
      have ho6 := hg2.or
      clear hK K hV hz hLn u0 hfz hg2
      (try simp only [Act.put, List.getElem_toArray, List.getElem_cons_zero, List.getElem_cons_succ, List.setIfInBounds_toArray, List.set_cons_zero, List.set_cons_succ])
      refine wpDet_done (by kernel_rfl) (fun W6 hV => ?_) _
      obtain ⟨hL6n, hEn, z0n, z1n, rq6n⟩ := hV
      have hle6 : w.heap.size ≤ Va.heap.size := hEV.size
      have hq6 : ∀ a, q = some a → 0 < N → a.block ≠ r6 := fun a ha h0 => by have h1 := hql a ha h0; have h2 := rd_lt hrV ha h0; exact ho6.elim (fun h => by omega) (fun h => by omega)
      have hE8 := hEV.trans hEn (Or.inl rfl)
      clear hL6 hE6 rq6 z0 z1 hgw hown hcV hC6 hLV hEn q0 q1 q2 q3
      obtain ⟨q0, q1, q2, q3⟩ := hL6n.blk.four
      have fz1 := hL6n.blk.free 1
      have fz2 := hL6n.blk.free 2
      obtain ⟨p0, p1, p2, p3⟩ := hL6n.blk.four
      dsimp only at p0 p1 p2 p3
      have hf : (⟨E, q, N, cc, M⟩ : HE).rd W6 g r6 := ⟨rq6n, fun a ha h0 => by have := hql a ha h0; exact ⟨by omega, hq6 a ha h0⟩⟩
      have hL7 := hL6n.setNow hf
      have hE7 : Ex2 g r w ((W6.setCell ⟨g, 1, none⟩ (.int .i64 E)).setCell ⟨g, 2, none⟩ (.slice q N cc)) := (hE8.setG 1 _).setG 2 _
      clear hL6n hE8 hf q0 q1 q2 q3
      go_wp2_with fail
      go_ret
      exact ⟨rfl, Aft.mk r6 (ho6.imp id (fun h => Nat.le_trans hle6 h)) ⟨bc6, _, _, hL7, rfl, by rw [List.map_append, hH]; rfl⟩, hE7⟩
    · rw [if_pos (by rfl)]
      refine wp_value (.pointer (some ⟨V.heap.size, 0, none⟩)) (V.alloc (.cells #[.int .i64 0, .slice none 0 0] 42)) (by first | (go_simp; done) | (go_simp; rfl)) ?_
      have hxl : w0.heap.size ≤ V.heap.size := (Bl.out hV).size
      refine hK.out (Bx w0 V.heap.size) _ _ (Bx.stays w0 _) (fun _ _ h => h.1) ⟨Bl.stays w0 V _ hV ((Below.refl _ _).alloc (Nat.le_refl _) _), heap_alloc_new _ _⟩ ?_
      clear hK K hV
      generalize V.heap.size = x at *
      (try simp only [Act.put, List.getElem_toArray, List.getElem_cons_zero, List.getElem_cons_succ, List.setIfInBounds_toArray, List.set_cons_zero, List.set_cons_succ])
      refine wpDet_ready (rs := [5]) (by kernel_rfl) (by simp) (AllDet.cons rfl (fun V hV K hK => ?_) AllDet.nil)
      rw [if_pos (by rfl)]
      have hCv := change_is k nd st ep e px nx cx ms V (hL4.now.1.below hV.1) hnx E 0 M HE.out HM.out HK.out
      refine wp_enterE 53 #[.agg #[.int .i64 e, .slice px nx cx], .agg #[.int .i64 k, .int .i64 nd, .int .i64 st, .int .i64 ep]] (by first | (go_simp; done) | (go_simp; rfl)) (fun v W => (∃ q cc, v = .tuple #[.agg #[.int .i64 E, .slice q (M : List Mb).length cc], .int .i64 0] ∧ (∀ a, q = some a → 0 < (M : List Mb).length → V.heap.size ≤ a.block) ∧ RdM W q (M : List Mb).length cc M) ∧ Below V.heap.size V W) (hCv.mono fun e' w' hh => by obtain ⟨v, h1, h2, h3⟩ := hh; exact ⟨v, h1, h2, h3⟩) ?_
      rintro v7 V7 ⟨⟨q, cc, rfl, hq, hrq⟩, hb7⟩
      obtain ⟨N, HN⟩ : ∃ N, Hid ((M : List Mb).length = N) := ⟨_, rfl⟩
      rw [HN.out] at hq hrq ⊢
      have hqx : ∀ a, q = some a → 0 < N → a.block ≠ x := fun a ha h0 => Nat.ne_of_gt (Nat.lt_of_lt_of_le (Array.getElem?_eq_some_iff.1 hV.2).1 (hq a ha h0))
      have hql : ∀ a, q = some a → 0 < N → w0.heap.size ≤ a.block := fun a ha h0 => Nat.le_trans (Bl.out hV.1).size (hq a ha h0)
      refine hK.out (fun W => Br w0 q N cc M W ∧ Bx w0 x W) _ _ ((Br.stays w0 _ _ _ _).and (Bx.stays w0 _)) (fun _ _ h => h.1.1) ⟨⟨Bl.stays w0 V V7 hV.1 hb7, hrq⟩, Bx.stays w0 x V V7 hV hb7⟩ ?_
      clear hK K hCv hb7 hV hrq hq
      (try simp only [Act.put, List.getElem_toArray, List.getElem_cons_zero, List.getElem_cons_succ, List.setIfInBounds_toArray, List.set_cons_zero, List.set_cons_succ])
      refine wpDet_take ?vD6 ((Br.stays w0 _ _ _ _).and (Bx.stays w0 _)) (fun _ h => h.1.1) (i := 6) rfl (by kernel_rfl) (by kernel_rfl) (by kernel_rfl) (by kernel_rfl) (fun _ _ _ h => h) (Gives.value (by rfl) ?yD6) ?rD6
      case yD6 => (intro w' hSw; go_simp; try with_reducible rfl)
      (try simp only [Act.put, List.getElem_toArray, List.getElem_cons_zero, List.getElem_cons_succ, List.setIfInBounds_toArray, List.set_cons_zero, List.set_cons_succ])
      refine wpDet_take ?vD7 ((Br.stays w0 _ _ _ _).and (Bx.stays w0 _)) (fun _ h => h.1.1) (i := 7) rfl (by kernel_rfl) (by kernel_rfl) (by kernel_rfl) (by kernel_rfl) (fun _ _ _ h => h) (Gives.value (by rfl) ?yD7) ?rD7
      case yD7 => (intro w' hSw; go_simp; try with_reducible rfl)
      (try simp only [Act.put, List.getElem_toArray, List.getElem_cons_zero, List.getElem_cons_succ, List.setIfInBounds_toArray, List.set_cons_zero, List.set_cons_succ])
      refine wpDet_take ?vD8 ((Br.stays w0 _ _ _ _).and (Bx.stays w0 _)) (fun _ h => h.1.1) (i := 8) rfl (by kernel_rfl) (by kernel_rfl) (by kernel_rfl) (by kernel_rfl) (fun _ _ _ h => h) (Gives.value (by rfl) ?yD8) ?rD8
      case yD8 => (intro w' hSw; go_simp; try with_reducible rfl)
      (try simp only [Act.put, List.getElem_toArray, List.getElem_cons_zero, List.getElem_cons_succ, List.setIfInBounds_toArray, List.set_cons_zero, List.set_cons_succ])
      refine wpDet_ready (rs := [10]) (by kernel_rfl) (by simp) (AllDet.cons rfl (fun V hV K hK => ?_) AllDet.nil)
      rw [if_pos (by rfl)]
      have y0 := cell_row hV.2.2 (j := 0) (v := .int .i64 0) rfl
      have y1 := cell_row hV.2.2 (j := 1) (v := .slice none 0 0) rfl
      have g0 := frozen_of_row V x 0 _ _ hV.2.2
      have g1 := frozen_of_row V x 1 _ _ hV.2.2
      have hth : V.there x 0 2 := fun j hj => by rw [Nat.zero_add]; match j, hj with | 0, _ => exact ⟨by rw [y0]; rfl, g0⟩ | 1, _ => exact ⟨by rw [y1]; rfl, g1⟩
      refine wp_store_mid 42 _ _ rfl x 0 #[.int .i64 E, .slice q N cc] rfl rfl hth sizeC (one2 _ _ _ _) ?_
      have hz : Bz w0.heap.size w0 x E q N cc M ((V.setCell ⟨x, 0, none⟩ (.int .i64 E)).setCell ⟨x, 1, none⟩ (.slice q N cc)) := ⟨Gr.putB (Bl.out hV.1.1) hxl _ _, hV.1.2.put _ _ (fun a ha h0 => hqx a ha h0), two0 y0, two1 y1, by have := (Bl.out hV.1.1).size; simp; omega⟩
      refine hK.out (Bz w0.heap.size w0 x E q N cc M) _ _ (Bz.stays _ _ _ _ _ _ _ _) (fun _ _ h => h.1) hz ?_
      clear hK K hV hth hz y0 y1 g0 g1
      (try simp only [Act.put, List.getElem_toArray, List.getElem_cons_zero, List.getElem_cons_succ, List.setIfInBounds_toArray, List.set_cons_zero, List.set_cons_succ])
      refine wpDet_take ?vE11 (Bz.stays _ _ _ _ _ _ _ _) (fun _ h => h.1) (i := 11) rfl (by kernel_rfl) (by kernel_rfl) (by kernel_rfl) (by kernel_rfl) (fun _ _ _ h => h) (Gives.value (by rfl) ?yE11) ?rE11
      case yE11 => (intro w' hSw; go_simp; try with_reducible rfl)
      (try simp only [Act.put, List.getElem_toArray, List.getElem_cons_zero, List.getElem_cons_succ, List.setIfInBounds_toArray, List.set_cons_zero, List.set_cons_succ])
      refine wpDet_done (by kernel_rfl) (fun W3 hV => ?_) _
      obtain ⟨hb3, rq, z0, z1, hs3⟩ := hV
      have hL5 := hL4.below hb3
      have hE5 := hE4.trans (Ex2.of_below hb3) (Or.inl rfl)
      have hlg : g < w0.heap.size := hL4.blk.lt
      have hlr : r < w0.heap.size := hL4.lr
      clear hL4 hE4 hC4 q0 q1 q2 q3 hS0 HE HM HK
      obtain ⟨q0, q1, q2, q3⟩ := hL5.blk.four
      dsimp only at q0 q1 q2 q3
      go_wp2_with fail
      go_region
      go_wp2_with fail
      have hL6 := hL5.below ((Below.refl _ _).drew)
      have hE6 := hE5.trans (Ex2.of_below ((Below.refl _ _).drew)) (Or.inl rfl)
      have rq6 := rq.below ((Below.refl _ _).drew)
      replace z0 := cell_below ((Below.refl _ _).drew) z0
      replace z1 := cell_below ((Below.refl _ _).drew) z1
      have hxl6 : w0.heap.size ≤ W3.drew.heap.size := hb3.size
      clear q0 q1 q2 q3 hL5 hE5 rq hb3 hs3
      generalize W3.drew = w5 at *
      obtain ⟨q0, q1, q2, q3⟩ := hL6.blk.four
      dsimp only at q0 q1 q2 q3
      have hS5 : Bl w5 w5.drew := (Below.refl _ _).drew
      have hC0 : ∀ W, Bl w5 W → C0 g r H.length bc x E q N cc W := fun W h => ⟨cell_below h q0, cell_below h z0, cell_below h z1⟩
      refine wp_region_det [0, 1, 2, 3, 4, 5, 6] (C0 g r H.length bc x E q N cc) (Bl w5) (by kernel_rfl) hS5 ?_
      refine wpDet_take ?vBn0 (Bl.stays w5) (fun W h => hC0 W h) (i := 0) rfl (by kernel_rfl) (by kernel_rfl) (by kernel_rfl) (by kernel_rfl) (fun _ _ _ h => h) (Gives.value (by rfl) ?yBn0) ?rBn0
      case yBn0 => (intro w' hSw; go_simp; try with_reducible rfl)
      (try simp only [Act.put, List.getElem_toArray, List.getElem_cons_zero, List.getElem_cons_succ, List.setIfInBounds_toArray, List.set_cons_zero, List.set_cons_succ])
      refine wpDet_take ?vBn1 (Bl.stays w5) (fun W h => hC0 W h) (i := 1) rfl (by kernel_rfl) (by kernel_rfl) (by kernel_rfl) (by kernel_rfl) (fun _ _ _ h => h) (Gives.value (by rfl) ?yBn1) ?rBn1
      case yBn1 => (intro w' hSw; go_simp; try with_reducible rfl)
      (try simp only [Act.put, List.getElem_toArray, List.getElem_cons_zero, List.getElem_cons_succ, List.setIfInBounds_toArray, List.set_cons_zero, List.set_cons_succ])
      refine wpDet_take ?vBn2 (Bl.stays w5) (fun W h => hC0 W h) (i := 2) rfl (by kernel_rfl) (by kernel_rfl) (by kernel_rfl) (by kernel_rfl) (fun _ _ _ h => h) (Gives.value (by rfl) ?yBn2) ?rBn2
      case yBn2 => (intro w' hSw; go_simp; try with_reducible rfl)
      (try simp only [Act.put, List.getElem_toArray, List.getElem_cons_zero, List.getElem_cons_succ, List.setIfInBounds_toArray, List.set_cons_zero, List.set_cons_succ])
      refine wpDet_take ?vBn3 (Bl.stays w5) (fun W h => hC0 W h) (i := 3) rfl (by kernel_rfl) (by kernel_rfl) (by kernel_rfl) (by kernel_rfl) (fun _ _ _ h => h) (Gives.value (by rfl) ?yBn3) ?rBn3
      case yBn3 => (intro w' hSw; go_simp; try with_reducible rfl)
      (try simp only [Act.put, List.getElem_toArray, List.getElem_cons_zero, List.getElem_cons_succ, List.setIfInBounds_toArray, List.set_cons_zero, List.set_cons_succ])
      refine wpDet_take ?vBn4 (Bl.stays w5) (fun W h => hC0 W h) (i := 4) rfl (by kernel_rfl) (by kernel_rfl) (by kernel_rfl) (by kernel_rfl) (fun _ _ _ h => h) (Gives.value (by rfl) ?yBn4) ?rBn4
      case yBn4 => (intro w' hSw; go_simp; try with_reducible rfl)
      (try simp only [Act.put, List.getElem_toArray, List.getElem_cons_zero, List.getElem_cons_succ, List.setIfInBounds_toArray, List.set_cons_zero, List.set_cons_succ])
      refine wpDet_take ?vBn5 (Bl.stays w5) (fun W h => hC0 W h) (i := 5) rfl (by kernel_rfl) (by kernel_rfl) (by kernel_rfl) (by kernel_rfl) (fun _ _ _ h => h) (Gives.value (by rfl) ?yBn5) ?rBn5
      case yBn5 => (intro w' hSw; have h5 := hSw.1; go_simp; try with_reducible rfl)
      (try simp only [Act.put, List.getElem_toArray, List.getElem_cons_zero, List.getElem_cons_succ, List.setIfInBounds_toArray, List.set_cons_zero, List.set_cons_succ])
      refine wpDet_take _ (Bl.stays w5) (fun W h => hC0 W h) (i := 6) rfl (by kernel_rfl) (by kernel_rfl) (by kernel_rfl) (by kernel_rfl) (fun _ _ _ h => h) (Gives.of_yields (yieldsIf_load_mid (by rfl) _ _ rfl _ _ rfl _ _ (fun W h => range2 h.2.1 h.2.2) Try.underlying42 rfl sizeC)) ?_
      (try simp only [Act.put, List.getElem_toArray, List.getElem_cons_zero, List.getElem_cons_succ, List.setIfInBounds_toArray, List.set_cons_zero, List.set_cons_succ])
      refine wpDet_ready (rs := [7]) (by kernel_rfl) (by simp) (AllDet.cons rfl (fun V hV K hK => ?_) AllDet.nil)
      rw [if_pos (by rfl)]
      refine wp_value (.slice (some ⟨V.heap.size, 0, none⟩) 1 1) (V.alloc (.cells #[.int .i64 E, .slice q N cc] 42)) (by first | (go_simp; done) | (go_simp; rfl)) ?_
      refine hK.out (fun W => Bl w5 W ∧ At 42 W V.heap.size #[.int .i64 E, .slice q N cc]) _ _ ((Bl.stays w5).and (fun _ _ h hb => h.below hb)) (fun _ W h => hC0 W h.1) ⟨Bl.stays w5 V _ hV (below_alloc _ _), At.new _ _ _⟩ ?_
      clear hK K hV
      generalize V.heap.size = y at *
      (try simp only [Act.put, List.getElem_toArray, List.getElem_cons_zero, List.getElem_cons_succ, List.setIfInBounds_toArray, List.set_cons_zero, List.set_cons_succ])
      refine wpDet_ready (rs := [8]) (by kernel_rfl) (by simp) (AllDet.cons rfl (fun V hV K hK => ?_) AllDet.nil)
      rw [if_pos (by rfl)]
      obtain ⟨a0, a1⟩ := hV.2.two
      have hLV := hL6.below hV.1
      have hxV : x < V.heap.size := World.block_lt_of_cell? _ _ (hC0 V hV.1).2.1
      have hEV : Ex2 g r w V := hE6.trans (Ex2.of_below hV.1) (Or.inl rfl)
      have hrV := rq6.below hV.1
      have hVl : w0.heap.size ≤ V.heap.size := Nat.le_trans hxl6 (Bl.out hV.1).size
      obtain ⟨r6, bc6, V6, hrun, hown, hgw⟩ := run_appC V 78 i0 (.agg #[.int .i64 0, .slice none 0 0]) hi0 hz0 hz1 hz2 rfl r bc H hLV.row y 1 ⟨E, q, N, cc, M⟩ a0 a1 hHl2
      have hcV := hC0 V hV.1
      refine wp_app _ _ _ rfl _ _ rfl rfl _ V6 hrun ?_
      have hxr : x ≠ r := by omega
      have hxg : x ≠ g := by omega
      have hgr : g ≠ r := fun h => hLV.ne h.symm
      have hne6 : ∀ b j v, b ≠ r → V.cell? ⟨b, j, none⟩ = some v → V6.cell? ⟨b, j, none⟩ = some v := fun b j v hb hc => (World.cell?_of_block ((hgw.ex2 (g := V.heap.size)).block b (World.block_lt_of_cell? _ _ hc) (Nat.ne_of_lt (World.block_lt_of_cell? _ _ hc)) hb)).trans hc
      have hC6 : C0 g r H.length bc x E q N cc V6 := ⟨hne6 _ _ _ hgr hcV.1, hne6 _ _ _ hxr hcV.2.1, hne6 _ _ _ hxr hcV.2.2⟩
      refine hK.out (Bl V6) _ _ (Bl.stays V6) (fun _ W h => ⟨cell_below h hC6.1, cell_below h hC6.2.1, cell_below h hC6.2.2⟩) (Below.refl _ _) ?_
      clear hK K hV hrun a0 a1 hC0
      (try simp only [Act.put, List.getElem_toArray, List.getElem_cons_zero, List.getElem_cons_succ, List.setIfInBounds_toArray, List.set_cons_zero, List.set_cons_succ])
      generalize hVV : V = Va at *
      refine wpDet_ready (rs := [9]) (by kernel_rfl) (by simp) (AllDet.cons rfl (fun V hV K hK => ?_) AllDet.nil)
      rw [if_pos (by rfl)]
      refine wp_value (.pointer (some ⟨g, 0, none⟩)) V (by first | (go_simp; done) | (go_simp; rfl)) ?_
      refine hK.out (Bl V6) _ _ (Bl.stays V6) (fun _ => (fun W h => ⟨cell_below h hC6.1, cell_below h hC6.2.1, cell_below h hC6.2.2⟩)) hV ?_
      clear hK K hV
      (try simp only [Act.put, List.getElem_toArray, List.getElem_cons_zero, List.getElem_cons_succ, List.setIfInBounds_toArray, List.set_cons_zero, List.set_cons_succ])
      refine wpDet_ready (rs := [10]) (by kernel_rfl) (by simp) (AllDet.cons rfl (fun V hV K hK => ?_) AllDet.nil)
      rw [if_pos (by rfl)]
      refine wp_value (.pointer (some ⟨g, 0, none⟩)) V (by first | (go_simp; done) | (go_simp; rfl)) ?_
      refine hK.out (Bl V6) _ _ (Bl.stays V6) (fun _ => (fun W h => ⟨cell_below h hC6.1, cell_below h hC6.2.1, cell_below h hC6.2.2⟩)) hV ?_
      clear hK K hV
      (try simp only [Act.put, List.getElem_toArray, List.getElem_cons_zero, List.getElem_cons_succ, List.setIfInBounds_toArray, List.set_cons_zero, List.set_cons_succ])
      refine wpDet_ready (rs := [11]) (by kernel_rfl) (by simp) (AllDet.cons rfl (fun V hV K hK => ?_) AllDet.nil)
      rw [if_pos (by rfl)]
      refine wp_value (.pointer (some ⟨g, 0, none⟩)) V (by first | (go_simp; done) | (go_simp; rfl)) ?_
      refine hK.out (Bl V6) _ _ (Bl.stays V6) (fun _ => (fun W h => ⟨cell_below h hC6.1, cell_below h hC6.2.1, cell_below h hC6.2.2⟩)) hV ?_
      clear hK K hV
      (try simp only [Act.put, List.getElem_toArray, List.getElem_cons_zero, List.getElem_cons_succ, List.setIfInBounds_toArray, List.set_cons_zero, List.set_cons_succ])
      refine wpDet_ready (rs := [12]) (by kernel_rfl) (by simp) (AllDet.cons rfl (fun V hV K hK => ?_) AllDet.nil)
      rw [if_pos (by rfl)]
      have hg2 := hgw.below hV
      have hLn := hLV.grew hg2 (owns_below hown hV) (⟨hrV, fun a ha h0 => by have := hql a ha h0; exact ⟨by show a.block ≠ g; omega, by show a.block ≠ r; omega⟩⟩ : (⟨E, q, N, cc, M⟩ : HE).rd Va g r)
      have u0 := cell_below hV hC6.1
      have hfz : V.frozen? ⟨g, 0, none⟩ = false := by have := hLn.blk.free 0; simpa [World.frozen?_setCell] using this
      refine wp_store_slice _ _ _ rfl g 0 (some ⟨r6, 0, none⟩) (H.length + 1) bc6 _ rfl rfl sizeSlC u0 hfz ?_
      have hz : S4 Va g r r6 bc6 ⟨e, px, nx, cx, ms⟩ i (H ++ [⟨E, q, N, cc, M⟩]) x E q N cc M (V.setCell ⟨g, 0, none⟩ (.slice (some ⟨r6, 0, none⟩) (H.length + 1) bc6)) := ⟨hLn, (hg2.ex2 (g := g)).setG 0 _, by rw [World.cell?_setCell_other (h := fun h => hxg (congrArg Addr.block h).symm)]; exact cell_below hV hC6.2.1, by rw [World.cell?_setCell_other (h := fun h => hxg (congrArg Addr.block h).symm)]; exact cell_below hV hC6.2.2, (hrV.ex2 (hg2.ex2 (g := g)) (fun a ha h0 => by have := hql a ha h0; exact ⟨by omega, by omega⟩)).set1 _ (fun a ha h0 => by have := hql a ha h0; omega)⟩
      refine hK.out (S4 Va g r r6 bc6 ⟨e, px, nx, cx, ms⟩ i (H ++ [⟨E, q, N, cc, M⟩]) x E q N cc M) _ _ (S4.stays _ _ _ _ _ _ _ _ _ _ _ _ _ _) (no_lean (by kernel_rfl)) hz ?_
      have ho6 := hg2.or
      clear hK K hV hz hLn u0 hfz hg2
      (try simp only [Act.put, List.getElem_toArray, List.getElem_cons_zero, List.getElem_cons_succ, List.setIfInBounds_toArray, List.set_cons_zero, List.set_cons_succ])
      refine wpDet_done (by kernel_rfl) (fun W6 hV => ?_) _
      obtain ⟨hL6n, hEn, z0n, z1n, rq6n⟩ := hV
      have hle6 : w.heap.size ≤ Va.heap.size := hEV.size
      have hq6 : ∀ a, q = some a → 0 < N → a.block ≠ r6 := fun a ha h0 => by have h1 := hql a ha h0; have h2 := rd_lt hrV ha h0; exact ho6.elim (fun h => by omega) (fun h => by omega)
      have hE8 := hEV.trans hEn (Or.inl rfl)
      clear hL6 hE6 rq6 z0 z1 hgw hown hcV hC6 hLV hEn q0 q1 q2 q3
      obtain ⟨q0, q1, q2, q3⟩ := hL6n.blk.four
      have fz1 := hL6n.blk.free 1
      have fz2 := hL6n.blk.free 2
      obtain ⟨p0, p1, p2, p3⟩ := hL6n.blk.four
      dsimp only at p0 p1 p2 p3
      have hf : (⟨E, q, N, cc, M⟩ : HE).rd W6 g r6 := ⟨rq6n, fun a ha h0 => by have := hql a ha h0; exact ⟨by omega, hq6 a ha h0⟩⟩
      have hL7 := hL6n.setNow hf
      have hE7 : Ex2 g r w ((W6.setCell ⟨g, 1, none⟩ (.int .i64 E)).setCell ⟨g, 2, none⟩ (.slice q N cc)) := (hE8.setG 1 _).setG 2 _
      clear hL6n hE8 hf q0 q1 q2 q3
      go_wp2_with fail
      go_ret
      exact ⟨rfl, Aft.mk r6 (ho6.imp id (fun h => Nat.le_trans hle6 h)) ⟨bc6, _, _, hL7, rfl, by rw [List.map_append, hH]; rfl⟩, hE7⟩

end Go.Proofs.Ytcnkpgbmegppbaa.M
