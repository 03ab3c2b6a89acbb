/-
  Own text: whether an order goes on from a point, by a search that remembers blind points: the contract of found.
-/
import Derived.Test.YtmfmjoibofadlaaOFnd0
namespace Go.Proofs.Ytmfmjoibofadlaa.M
open Go.ChangeShapes Go.WideShapes Go.ChangeAt Go.RowKit Go.ChangeMaps Go.MapKept Go.Maps
set_option linter.unusedSimpArgs false

theorem wp_put {P : Program} {op : Oper} {a : Act} {w : World} {K : Act → World → Prop} {Q : Exit → Act → World → Prop} (t : TypeId) (m k v : Operand) (hop : op.op = .mapUpdate t m k v) (u1 u2 u3 : Value) (hm : a.eval m = u1) (hs : a.eval k = u2) (hv : a.eval v = u3) (w' : World)
    (hrun : (Instr.mapUpdate t u1 u2 u3).run P w = .ok () w') (h : K (a.put op.dst undef) w') : op.wp P a w K Q := by
  unfold Oper.wp
  simp [execOp, hop, hm, hs, hv, hrun, Result.andThen]
  exact h

theorem wp_store_any {P : Program} {op : Oper} {a : Act} {w : World} {K : Act → World → Prop} {Q : Exit → Act → World → Prop} (ty : TypeId) (x y : Operand) (ho : op.op = .store ty x y) (b o : Nat) (v : Value) (u : Value)
    (hx : a.eval x = .pointer (some ⟨b, o, none⟩)) (hy : a.eval y = v) (hsz : (P.info? ty).map (·.size) = some 1) (hcv : v.cells = #[v]) (h1 : v.oneCell' = true) (hc : w.cell? ⟨b, o, none⟩ = some u) (hf : w.frozen? ⟨b, o, none⟩ = false)
    (h : K (a.put op.dst undef) (w.setCell ⟨b, o, none⟩ v)) : op.wp P a w K Q := by
  have hrun : (storeVar ty ⟨b, o, none⟩ v).run P w = .ok () (w.setCell ⟨b, o, none⟩ v) := by
    have := run_storeCells_cells (P := P) b o [v] 0 w (fun j hj => by
        match j, hj with
        | 0, _ => rw [Nat.add_zero, hc]; rfl) (fun j hj => by
        match j, hj with
        | 0, _ => exact hf) (fun u hu => by rw [List.mem_singleton.1 hu]; exact h1)
    cases hq : P.info? ty with
    | none => simp [hq] at hsz
    | some i =>
      have hs : i.size = 1 := by simpa [hq] using hsz
      simp only [Nat.add_zero] at this
      simp [storeVar, sizeOf, typeInfo, hq, hcv, hs, this, World.setCells]
  unfold Oper.wp execOp
  simp only [ho, hx, hy, Instr.storeAt, Instr.sureAddr, Sem.run_bind, Sem.run_pure, Result.andThen_ok, hrun]
  exact h

theorem wp_store_none {P : Program} {op : Oper} {a : Act} {w : World} {K : Act → World → Prop} {Q : Exit → Act → World → Prop} (ty : TypeId) (x y : Operand) (ho : op.op = .store ty x y) (b : Nat)
    (hx : a.eval x = .pointer (some ⟨b, 0, none⟩)) (hy : a.eval y = .agg #[]) (hsz : (P.info? ty).map (·.size) = some 0)
    (h : K (a.put op.dst undef) w) : op.wp P a w K Q := by
  have hrun : (storeVar ty ⟨b, 0, none⟩ (.agg #[])).run P w = .ok () w := by
    cases hq : P.info? ty with
    | none => simp [hq] at hsz
    | some i =>
      have hs : i.size = 0 := by simpa [hq] using hsz
      simp [storeVar, sizeOf, typeInfo, hq, Value.cells, hs, storeCells]
  unfold Oper.wp execOp
  simp only [ho, hx, hy, Instr.storeAt, Instr.sureAddr, Sem.run_bind, Sem.run_pure, Result.andThen_ok, hrun]
  exact h

theorem wrapI (x : Nat) (h : x ≤ 1000) : IntKind.i64.wrap (x : Int) = (x : Int) := by
  have e : IntKind.i64.wrap (x : Int) = wrap64 (x : Int) := by first | rfl | (simp [IntKind.wrap, IntKind.bits, IntKind.signed, wrap64]; omega)
  rw [e]
  unfold wrap64
  omega

theorem sizeN : (Try.prog.info? 71).map (·.size) = some 0 := by kernel_rfl
theorem sizeSl : (Try.prog.info? 30).map (·.size) = some 1 := by kernel_rfl

/-- What the map tells of a point. -/
theorem St.look {s : Sr} {w : World} {K : List (Nat × ByteArray)} {pr : Option Addr} {nr cr : Nat} {row : List Int} (h : St s w K pr nr cr row) {d : Nat} {v : ByteArray} (hd : d < 18446744073709551616) (hv : v.size ≤ 24) :
    (Instr.lookup 57 (.map (some s.mb)) (.agg #[.int .u64 (d : Int), .string v]) true).run Try.prog w = .ok (.tuple #[.agg #[], .bool (hasP K d v)]) w := by
  obtain ⟨kl, hkl⟩ := key_ok hd (show v.size ≤ maxLen by unfold maxLen; omega)
  obtain ⟨f, N, hm, hp⟩ := h.map
  have h1 := hm.lookOk (Keyed.of_law pointLaw) mapP (zeroP w) hkl
  rw [hp d v] at h1
  unfold ptV at h1
  rw [h1]
  cases hasP K d v <;> rfl

/-- The last of a row is cut off. -/
theorem St.cut {s : Sr} {w : World} {K : List (Nat × ByteArray)} {pr : Option Addr} {nr cr : Nat} {row : List Int} {x : Int} (h : St s w K pr (nr + 1) cr (row ++ [x])) (hk : s.ok) (hl : row.length = nr) : St s (w.setCell ⟨s.h, 6, none⟩ (.slice pr nr cr)) K pr nr cr row ∧ Fm s w pr (w.setCell ⟨s.h, 6, none⟩ (.slice pr nr cr)) pr := by
  have ht := h.own.take (j := nr) (by omega)
  rw [← hl, List.take_left, hl] at ht
  exact h.store hk (Or.inl ⟨rfl, rfl, grownBy_refl w _⟩) ht

theorem Fm.of_bl {s : Sr} {w w' : World} {pr : Option Addr} (h : Bl w w') : Fm s w pr w' pr := (Fm.refl s w pr).below h

/-- The state of a search behind a change of its own. -/
def FS (s : Sr) (w : World) (pr : Option Addr) (K : List (Nat × ByteArray)) (row : List Int) (W : World) : Prop := ∃ p n c, St s W K p n c row ∧ Fm s w pr W p

theorem FS.stays (s : Sr) (w : World) (pr : Option Addr) (K : List (Nat × ByteArray)) (row : List Int) : Stays (FS s w pr K row) := fun _ _ ⟨p, n, c, h1, h2⟩ hb => ⟨p, n, c, h1.below hb, h2.below hb⟩

/-- What stands still lies there, and a point in block x. -/
def Pt (s : Sr) (x d : Nat) (v : ByteArray) (W : World) : Prop := s.lies W ∧ W.cell? ⟨x, 0, none⟩ = some (.int .u64 (d : Int)) ∧ W.cell? ⟨x, 1, none⟩ = some (.string v)

theorem Pt.below {s : Sr} {x d : Nat} {v : ByteArray} {w w' : World} (h : Pt s x d v w) (hb : Below w.heap.size w w') : Pt s x d v w' :=
  ⟨Se.below h.1 hb, by rw [hb.cell (p := ⟨x, 0, none⟩) (World.block_lt_of_cell? _ _ h.2.1)]; exact h.2.1, by rw [hb.cell (p := ⟨x, 1, none⟩) (World.block_lt_of_cell? _ _ h.2.2)]; exact h.2.2⟩

/-- One call after another is tried. -/
def goF (step : List (Nat × ByteArray) → List Int → Int → Option (Bool × List (Nat × ByteArray) × List Int)) : List Int → List (Nat × ByteArray) → List Int → Option (Bool × List (Nat × ByteArray) × List Int)
  | [], K, row => some (false, K, row)
  | i :: l, K, row => match step K (row ++ [i]) i with
    | none => none
    | some (true, K', row') => some (true, K', row')
    | some (false, K', row') => if row' = row ++ [i] then goF step l K' row else none

/-- What a search finds from a point, with which points it then holds for blind, and the order; none: not in so few steps. -/
def foundF (s : Sr) : Nat → List (Nat × ByteArray) → List Int → Nat → ByteArray → Option (Bool × List (Nat × ByteArray) × List Int)
  | 0, _, _, _, _ => none
  | m + 1, K, row, d, v =>
    if overB s.mu d = true then some (true, K, row)
    else if hasP K d v = true then some (false, K, row)
    else goF (fun K' row' i => foundF s m K' row' (d ||| bitN i) (s.L.getD i.toNat .z0).s) (triesF s.n s.L s.mu s.ah s.R s.S d v) ((d, v) :: K) row

theorem tries_in {n : Nat} {L : List Lo} {mu : Nat} {ah : List Int} {R S : List Int} (hR : Inn n R) (hS : Inn n S) (d : Nat) (v : ByteArray) : Inn n (triesF n L mu ah R S d v) := by
  intro x hx
  unfold triesF at hx
  split at hx
  · next h0 =>
    rw [List.mem_singleton] at hx
    subst hx
    rcases ixI_at (openB n L ah d v) R 0 with h1 | ⟨j, h1, h2⟩
    · rw [h1] at h0; exact absurd h0 (by decide)
    · rw [h1, Nat.zero_add, Int.toNat_natCast]; exact hR _ (getD_mem h2)
  · rcases List.mem_append.1 hx with hx | hx
    · unfold rnF at hx
      obtain ⟨l, hl, hx⟩ := List.mem_flatten.1 hx
      obtain ⟨i, _, rfl⟩ := List.mem_map.1 hl
      unfold rnS at hx
      split at hx
      · next h0 =>
        rw [List.mem_singleton] at hx
        subst hx
        rcases ixI_at (sameB n L ah d v i) S 0 with h1 | ⟨j, h1, h2⟩
        · rw [h1] at h0; exact absurd h0.1 (by decide)
        · rw [h1, Nat.zero_add, Int.toNat_natCast]; exact hS _ (getD_mem h2)
      · cases hx
    · unfold unF at hx
      exact hS x (List.mem_filter.1 (List.mem_filter.1 hx).1).1

set_option maxRecDepth 20000 in
set_option maxHeartbeats 8000000 in
theorem found_any (s : Sr) (hk : s.ok) : ∀ (m : Nat) (Kb : List (Nat × ByteArray)) (row : List Int) (d : Nat) (v : ByteArray) (r : Bool) (K' : List (Nat × ByteArray)) (row' : List Int) (w : World) (pr : Option Addr) (nr cr : Nat),
    foundF s m Kb row d v = some (r, K', row') → d < 18446744073709551616 → v.size ≤ 24 → nr + m ≤ 1000 → St s w Kb pr nr cr row →
    Calls Try.prog 25 #[.pointer (some ⟨s.h, 0, none⟩), .agg #[.int .u64 d, .string v]] w fun e w' => ∃ x, e = .returned x ∧ (x = .bool r ∧ ∃ pr' nr' cr', St s w' K' pr' nr' cr' row' ∧ Fm s w pr w' pr') := by
  intro m
  induction m with
  | zero => intro Kb row d v r K' row' w pr nr cr h; cases h
  | succ m ih =>
    intro Kb row d v r K' row' w pr nr cr hF hd hv hnm hSt
    have HF : Hid ((if overB s.mu d = true then some (true, Kb, row)
      else if hasP Kb d v = true then some (false, Kb, row)
      else goF (fun K' row' i => foundF s m K' row' (d ||| bitN i) (s.L.getD i.toNat .z0).s) (triesF s.n s.L s.mu s.ah s.R s.S d v) ((d, v) :: Kb) row) = some (r, K', row')) := hF
    clear hF
    have hb0 := below_alloc w (.cells #[.int .u64 d, .string v] 53)
    obtain ⟨k0, k1⟩ := point_box w 53 d v
    have hSt0 := hSt.below hb0
    have hfm0 : Fm s w pr (w.alloc (.cells #[.int .u64 d, .string v] 53)) pr := Fm.of_bl hb0
    have hbxB : s.B ≤ w.heap.size := hSt.sz
    have hprb : ∀ a, pr = some a → a.block < w.heap.size := fun a ha => (hSt.own.lt ha).2
    have hrl : row.length = nr := hSt.own.len
    clear hSt hb0
    go_enter Try.func25, Try.ntmps25
    go_wp2_with fail
    generalize hV0 : (w.alloc (.cells #[.int .u64 d, .string v] 53)) = V0 at *
    generalize hbx : w.heap.size = bx at *
    clear hV0
    obtain ⟨ov, hov0⟩ : ∃ ov, ov = overB s.mu d := ⟨_, rfl⟩
    have hov : Hid (overB s.mu d = ov) := hov0.symm
    clear hov0
    have hS0 : Bl V0 V0.drew := (Below.refl _ _).drew
    refine wp_region_det [0, 1, 2, 3, 4] (Bl V0) (Bl V0) (by kernel_rfl) hS0 ?_
    refine wpDet_take ?vA0 (Bl.stays V0) (fun _ h => h) (i := 0) rfl (by kernel_rfl) (by kernel_rfl) (by kernel_rfl) (by kernel_rfl) (fun _ _ _ h => h) (Gives.value (by rfl) ?yA0) ?rA0
    case yA0 => (intro w' hSw; (try dsimp only at hSw); go_simp; try with_reducible rfl)
    (try simp only [Act.put, List.getElem_toArray, List.getElem_cons_zero, List.getElem_cons_succ, List.setIfInBounds_toArray, List.set_cons_zero, List.set_cons_succ])
    refine wpDet_take ?vA1 (Bl.stays V0) (fun _ h => h) (i := 1) rfl (by kernel_rfl) (by kernel_rfl) (by kernel_rfl) (by kernel_rfl) (fun _ _ _ h => h) (Gives.value (by rfl) ?yA1) ?rA1
    case yA1 => (intro w' hSw; (try dsimp only at hSw); go_simp; try with_reducible rfl)
    (try simp only [Act.put, List.getElem_toArray, List.getElem_cons_zero, List.getElem_cons_succ, List.setIfInBounds_toArray, List.set_cons_zero, List.set_cons_succ])
    refine wpDet_take ?vA2 (Bl.stays V0) (fun _ h => h) (i := 2) rfl (by kernel_rfl) (by kernel_rfl) (by kernel_rfl) (by kernel_rfl) (fun _ _ _ h => h) (Gives.value (by rfl) ?yA2) ?rA2
    case yA2 => (intro w' hSw; (try dsimp only at hSw); go_simp; try with_reducible rfl)
    (try simp only [Act.put, List.getElem_toArray, List.getElem_cons_zero, List.getElem_cons_succ, List.setIfInBounds_toArray, List.set_cons_zero, List.set_cons_succ])
    refine wpDet_take ?vA3 (Bl.stays V0) (fun _ h => h) (i := 3) rfl (by kernel_rfl) (by kernel_rfl) (by kernel_rfl) (by kernel_rfl) (fun _ _ _ h => h) (Gives.value (by rfl) ?yA3) ?rA3
    case yA3 => (intro w' hSw; have zz0 := ((show Below _ _ _ from hSw).cell (p := ⟨bx, 0, none⟩) (World.block_lt_of_cell? _ _ k0)).trans k0; have zz1 := ((show Below _ _ _ from hSw).cell (p := ⟨bx, 1, none⟩) (World.block_lt_of_cell? _ _ k1)).trans k1; (try dsimp only at hSw); go_simp; try with_reducible rfl)
    (try simp only [Act.put, List.getElem_toArray, List.getElem_cons_zero, List.getElem_cons_succ, List.setIfInBounds_toArray, List.set_cons_zero, List.set_cons_succ])
    refine wpDet_take (.bool ov) (Bl.stays V0) (fun _ h => h) (i := 4) rfl (by kernel_rfl) (by kernel_rfl) (by kernel_rfl) (by kernel_rfl) (fun _ _ _ h => h) (Gives.call 30 #[.pointer (some ⟨s.h, 0, none⟩), .agg #[.int .u64 d, .string v]] (by rfl) (fun _ => by first | (go_simp; done) | (go_simp; rfl)) (fun W hW => (over_any W s.h s.p s.n s.c s.q s.e s.L s.mu s.ah (hSt0.below hW).se.pa d hd v).mono fun e w' ⟨h1, h2⟩ => ⟨h1.trans (by rw [hov.out]), h2⟩)) ?_
    (try simp only [Act.put, List.getElem_toArray, List.getElem_cons_zero, List.getElem_cons_succ, List.setIfInBounds_toArray, List.set_cons_zero, List.set_cons_succ])
    refine wpDet_done (by kernel_rfl) (fun W1 hV => ?_) _
    have hSt1 := hSt0.below (Bl.out hV)
    have hfm1 := hfm0.below (Bl.out hV)
    have k01 := ((Bl.out hV).cell (p := ⟨bx, 0, none⟩) (World.block_lt_of_cell? _ _ k0)).trans k0
    have k11 := ((Bl.out hV).cell (p := ⟨bx, 1, none⟩) (World.block_lt_of_cell? _ _ k1)).trans k1
    clear hSt0 hfm0 k0 k1 hV hS0
    cases ov with
    | true =>
      have HE : Hid ((true, Kb, row) = (r, K', row')) := by
        have := HF.out
        rw [hov.out, if_pos rfl] at this
        exact Option.some.inj this
      go_wp2_with fail
      go_ret
      obtain ⟨rfl, e2⟩ := Prod.mk.inj HE.out
      obtain ⟨rfl, rfl⟩ := Prod.mk.inj e2
      exact ⟨_, rfl, rfl, pr, nr, cr, hSt1, hfm1⟩
    | false =>
      have HF1 : Hid ((if hasP Kb d v = true then some (false, Kb, row)
        else goF (fun K' row' i => foundF s m K' row' (d ||| bitN i) (s.L.getD i.toNat .z0).s) (triesF s.n s.L s.mu s.ah s.R s.S d v) ((d, v) :: Kb) row) = some (r, K', row')) := by
        have := HF.out
        rw [hov.out, if_neg Bool.false_ne_true] at this
        exact this
      clear HF hov
      obtain ⟨hp, hhp0⟩ : ∃ hp, hp = hasP Kb d v := ⟨_, rfl⟩
      have hhp : Hid (hasP Kb d v = hp) := hhp0.symm
      clear hhp0
      have c5 := hSt1.c5
      go_wp2_with fail
      have hS0 : Bl W1 W1.drew := (Below.refl _ _).drew
      refine wp_region_det [0, 1, 2, 3, 4, 5, 6, 7, 8, 11] (Bl W1) (Bl W1) (by kernel_rfl) hS0 ?_
      refine wpDet_take ?vC0 (Bl.stays W1) (fun _ h => h) (i := 0) rfl (by kernel_rfl) (by kernel_rfl) (by kernel_rfl) (by kernel_rfl) (fun _ _ _ h => h) (Gives.value (by rfl) ?yC0) ?rC0
      case yC0 => (intro w' hSw; (try dsimp only at hSw); go_simp; try with_reducible rfl)
      (try simp only [Act.put, List.getElem_toArray, List.getElem_cons_zero, List.getElem_cons_succ, List.setIfInBounds_toArray, List.set_cons_zero, List.set_cons_succ])
      refine wpDet_take ?vC1 (Bl.stays W1) (fun _ h => h) (i := 1) rfl (by kernel_rfl) (by kernel_rfl) (by kernel_rfl) (by kernel_rfl) (fun _ _ _ h => h) (Gives.value (by rfl) ?yC1) ?rC1
      case yC1 => (intro w' hSw; (try dsimp only at hSw); go_simp; try with_reducible rfl)
      (try simp only [Act.put, List.getElem_toArray, List.getElem_cons_zero, List.getElem_cons_succ, List.setIfInBounds_toArray, List.set_cons_zero, List.set_cons_succ])
      refine wpDet_take ?vC2 (Bl.stays W1) (fun _ h => h) (i := 2) rfl (by kernel_rfl) (by kernel_rfl) (by kernel_rfl) (by kernel_rfl) (fun _ _ _ h => h) (Gives.value (by rfl) ?yC2) ?rC2
      case yC2 => (intro w' hSw; (try dsimp only at hSw); go_simp; try with_reducible rfl)
      (try simp only [Act.put, List.getElem_toArray, List.getElem_cons_zero, List.getElem_cons_succ, List.setIfInBounds_toArray, List.set_cons_zero, List.set_cons_succ])
      refine wpDet_take ?vC3 (Bl.stays W1) (fun _ h => h) (i := 3) rfl (by kernel_rfl) (by kernel_rfl) (by kernel_rfl) (by kernel_rfl) (fun _ _ _ h => h) (Gives.value (by rfl) ?yC3) ?rC3
      case yC3 => (intro w' hSw; have zz0 := ((show Below _ _ _ from hSw).cell (p := ⟨s.h, 5, none⟩) (World.block_lt_of_cell? _ _ c5)).trans c5; (try dsimp only at hSw); go_simp; try with_reducible rfl)
      (try simp only [Act.put, List.getElem_toArray, List.getElem_cons_zero, List.getElem_cons_succ, List.setIfInBounds_toArray, List.set_cons_zero, List.set_cons_succ])
      refine wpDet_take ?vC4 (Bl.stays W1) (fun _ h => h) (i := 4) rfl (by kernel_rfl) (by kernel_rfl) (by kernel_rfl) (by kernel_rfl) (fun _ _ _ h => h) (Gives.value (by rfl) ?yC4) ?rC4
      case yC4 => (intro w' hSw; have zz0 := ((show Below _ _ _ from hSw).cell (p := ⟨bx, 0, none⟩) (World.block_lt_of_cell? _ _ k01)).trans k01; have zz1 := ((show Below _ _ _ from hSw).cell (p := ⟨bx, 1, none⟩) (World.block_lt_of_cell? _ _ k11)).trans k11; (try dsimp only at hSw); go_simp; try with_reducible rfl)
      (try simp only [Act.put, List.getElem_toArray, List.getElem_cons_zero, List.getElem_cons_succ, List.setIfInBounds_toArray, List.set_cons_zero, List.set_cons_succ])
      refine wpDet_take (.tuple #[.agg #[], .bool hp]) (Bl.stays W1) (fun _ h => h) (i := 5) rfl (by kernel_rfl) (by kernel_rfl) (by kernel_rfl) (by kernel_rfl) (fun _ _ _ h => h) (Gives.value (by rfl) ?yC5) ?rC5
      case yC5 => (intro w' hSw; have hlk := (hSt1.below hSw).look hd hv; rw [hhp.out] at hlk; (try dsimp only at hSw); go_simp; try with_reducible rfl)
      (try simp only [Act.put, List.getElem_toArray, List.getElem_cons_zero, List.getElem_cons_succ, List.setIfInBounds_toArray, List.set_cons_zero, List.set_cons_succ])
      refine wpDet_take ?vC6 (Bl.stays W1) (fun _ h => h) (i := 6) rfl (by kernel_rfl) (by kernel_rfl) (by kernel_rfl) (by kernel_rfl) (fun _ _ _ h => h) (Gives.value (by rfl) ?yC6) ?rC6
      case yC6 => (intro w' hSw; (try dsimp only at hSw); go_simp; try with_reducible rfl)
      (try simp only [Act.put, List.getElem_toArray, List.getElem_cons_zero, List.getElem_cons_succ, List.setIfInBounds_toArray, List.set_cons_zero, List.set_cons_succ])
      refine wpDet_take ?vC7 (Bl.stays W1) (fun _ h => h) (i := 7) rfl (by kernel_rfl) (by kernel_rfl) (by kernel_rfl) (by kernel_rfl) (fun _ _ _ h => h) (Gives.value (by rfl) ?yC7) ?rC7
      case yC7 => (intro w' hSw; (try dsimp only at hSw); go_simp; try with_reducible rfl)
      (try simp only [Act.put, List.getElem_toArray, List.getElem_cons_zero, List.getElem_cons_succ, List.setIfInBounds_toArray, List.set_cons_zero, List.set_cons_succ])
      refine wpDet_take ?vC8 (Bl.stays W1) (fun _ h => h) (i := 8) rfl (by kernel_rfl) (by kernel_rfl) (by kernel_rfl) (by kernel_rfl) (fun _ _ _ h => h) (Gives.value (by rfl) ?yC8) ?rC8
      case yC8 => (intro w' hSw; (try dsimp only at hSw); go_simp; try with_reducible rfl)
      (try simp only [Act.put, List.getElem_toArray, List.getElem_cons_zero, List.getElem_cons_succ, List.setIfInBounds_toArray, List.set_cons_zero, List.set_cons_succ])
      refine wpDet_ready (rs := [9]) (by kernel_rfl) (by simp) (AllDet.cons rfl (fun V hV K hK => ?_) AllDet.nil)
      rw [if_pos (by rfl)]
      refine wp_value (.pointer (some ⟨V.heap.size, 0, none⟩)) (V.alloc (.cells #[] 71)) (by first | (go_simp; done) | (go_simp; rfl)) ?_
      have hz0 : Bl W1 (V.alloc (.cells #[] 71)) := Bl.stays W1 V _ hV (below_alloc _ _)
      refine hK.out (Bl W1) _ _ (Bl.stays _) (fun _ _ h => h) hz0 ?_
      clear hK K hV hz0
      generalize V.heap.size = xb at *
      (try simp only [Act.put, List.getElem_toArray, List.getElem_cons_zero, List.getElem_cons_succ, List.setIfInBounds_toArray, List.set_cons_zero, List.set_cons_succ])
      refine wpDet_ready (rs := [10]) (by kernel_rfl) (by simp) (AllDet.cons rfl (fun V hV K hK => ?_) AllDet.nil)
      rw [if_pos (by rfl)]
      refine wp_store_none 71 _ _ rfl xb rfl rfl sizeN ?_
      refine hK.out (Bl W1) _ _ (Bl.stays _) (fun _ _ h => h) hV ?_
      clear hK K hV
      (try simp only [Act.put, List.getElem_toArray, List.getElem_cons_zero, List.getElem_cons_succ, List.setIfInBounds_toArray, List.set_cons_zero, List.set_cons_succ])
      refine wpDet_take ?vC11 (Bl.stays W1) (fun _ h => h) (i := 11) rfl (by kernel_rfl) (by kernel_rfl) (by kernel_rfl) (by kernel_rfl) (fun _ _ _ h => h) (Gives.value (by rfl) ?yC11) ?rC11
      case yC11 => (intro w' hSw; (try dsimp only at hSw); go_simp; try with_reducible rfl)
      (try simp only [Act.put, List.getElem_toArray, List.getElem_cons_zero, List.getElem_cons_succ, List.setIfInBounds_toArray, List.set_cons_zero, List.set_cons_succ])
      refine wpDet_done (by kernel_rfl) (fun W2 hV => ?_) _
      have hSt2 := hSt1.below (Bl.out hV)
      have hfm2 := hfm1.below (Bl.out hV)
      have k02 := ((Bl.out hV).cell (p := ⟨bx, 0, none⟩) (World.block_lt_of_cell? _ _ k01)).trans k01
      have k12 := ((Bl.out hV).cell (p := ⟨bx, 1, none⟩) (World.block_lt_of_cell? _ _ k11)).trans k11
      clear hSt1 hfm1 k01 k11 hV hS0 c5
      cases hp with
      | true =>
        have HE : Hid ((false, Kb, row) = (r, K', row')) := by
          have := HF1.out
          rw [hhp.out, if_pos rfl] at this
          exact Option.some.inj this
        go_wp2_with fail
        go_ret
        obtain ⟨rfl, e2⟩ := Prod.mk.inj HE.out
        obtain ⟨rfl, rfl⟩ := Prod.mk.inj e2
        exact ⟨_, rfl, rfl, pr, nr, cr, hSt2, hfm2⟩
      | false =>
        have HF2 : Hid (goF (fun K' row' i => foundF s m K' row' (d ||| bitN i) (s.L.getD i.toNat .z0).s) (triesF s.n s.L s.mu s.ah s.R s.S d v) ((d, v) :: Kb) row = some (r, K', row')) := by
          have := HF1.out
          rw [hhp.out, if_neg Bool.false_ne_true] at this
          exact this
        clear HF1 hhp
        have c52 := hSt2.c5
        go_wp2_with fail
        have hS0 : Bl W2 W2.drew := (Below.refl _ _).drew
        refine wp_region_det [0, 1, 2, 3, 4, 5] (Bl W2) (Bl W2) (by kernel_rfl) hS0 ?_
        refine wpDet_take ?vE0 (Bl.stays W2) (fun _ h => h) (i := 0) rfl (by kernel_rfl) (by kernel_rfl) (by kernel_rfl) (by kernel_rfl) (fun _ _ _ h => h) (Gives.value (by rfl) ?yE0) ?rE0
        case yE0 => (intro w' hSw; (try dsimp only at hSw); go_simp; try with_reducible rfl)
        (try simp only [Act.put, List.getElem_toArray, List.getElem_cons_zero, List.getElem_cons_succ, List.setIfInBounds_toArray, List.set_cons_zero, List.set_cons_succ])
        refine wpDet_take ?vE1 (Bl.stays W2) (fun _ h => h) (i := 1) rfl (by kernel_rfl) (by kernel_rfl) (by kernel_rfl) (by kernel_rfl) (fun _ _ _ h => h) (Gives.value (by rfl) ?yE1) ?rE1
        case yE1 => (intro w' hSw; (try dsimp only at hSw); go_simp; try with_reducible rfl)
        (try simp only [Act.put, List.getElem_toArray, List.getElem_cons_zero, List.getElem_cons_succ, List.setIfInBounds_toArray, List.set_cons_zero, List.set_cons_succ])
        refine wpDet_take ?vE2 (Bl.stays W2) (fun _ h => h) (i := 2) rfl (by kernel_rfl) (by kernel_rfl) (by kernel_rfl) (by kernel_rfl) (fun _ _ _ h => h) (Gives.value (by rfl) ?yE2) ?rE2
        case yE2 => (intro w' hSw; (try dsimp only at hSw); go_simp; try with_reducible rfl)
        (try simp only [Act.put, List.getElem_toArray, List.getElem_cons_zero, List.getElem_cons_succ, List.setIfInBounds_toArray, List.set_cons_zero, List.set_cons_succ])
        refine wpDet_take ?vE3 (Bl.stays W2) (fun _ h => h) (i := 3) rfl (by kernel_rfl) (by kernel_rfl) (by kernel_rfl) (by kernel_rfl) (fun _ _ _ h => h) (Gives.value (by rfl) ?yE3) ?rE3
        case yE3 => (intro w' hSw; have zz0 := ((show Below _ _ _ from hSw).cell (p := ⟨s.h, 5, none⟩) (World.block_lt_of_cell? _ _ c52)).trans c52; (try dsimp only at hSw); go_simp; try with_reducible rfl)
        (try simp only [Act.put, List.getElem_toArray, List.getElem_cons_zero, List.getElem_cons_succ, List.setIfInBounds_toArray, List.set_cons_zero, List.set_cons_succ])
        refine wpDet_take ?vE4 (Bl.stays W2) (fun _ h => h) (i := 4) rfl (by kernel_rfl) (by kernel_rfl) (by kernel_rfl) (by kernel_rfl) (fun _ _ _ h => h) (Gives.value (by rfl) ?yE4) ?rE4
        case yE4 => (intro w' hSw; have zz0 := ((show Below _ _ _ from hSw).cell (p := ⟨bx, 0, none⟩) (World.block_lt_of_cell? _ _ k02)).trans k02; have zz1 := ((show Below _ _ _ from hSw).cell (p := ⟨bx, 1, none⟩) (World.block_lt_of_cell? _ _ k12)).trans k12; (try dsimp only at hSw); go_simp; try with_reducible rfl)
        (try simp only [Act.put, List.getElem_toArray, List.getElem_cons_zero, List.getElem_cons_succ, List.setIfInBounds_toArray, List.set_cons_zero, List.set_cons_succ])
        refine wpDet_take ?vE5 (Bl.stays W2) (fun _ h => h) (i := 5) rfl (by kernel_rfl) (by kernel_rfl) (by kernel_rfl) (by kernel_rfl) (fun _ _ _ h => h) (Gives.value (by rfl) ?yE5) ?rE5
        case yE5 => (intro w' hSw; (try dsimp only at hSw); go_simp; try with_reducible rfl)
        (try simp only [Act.put, List.getElem_toArray, List.getElem_cons_zero, List.getElem_cons_succ, List.setIfInBounds_toArray, List.set_cons_zero, List.set_cons_succ])
        refine wpDet_ready (rs := [6]) (by kernel_rfl) (by simp) (AllDet.cons rfl (fun V hV K hK => ?_) AllDet.nil)
        rw [if_pos (by rfl)]
        obtain ⟨o2, hrun, hput, hfm⟩ := (hSt2.below (Bl.out hV)).blind hk hd hv
        refine wp_put 57 (.tmp 27) (.tmp 28) (.tmp 29) rfl (.map (some s.mb)) (ptV d v) (.agg #[]) rfl rfl rfl (setBlock V s.mb o2) hrun ?_
        have hz6 : FS s W2 pr ((d, v) :: Kb) row (setBlock V s.mb o2) := ⟨pr, nr, cr, hput, (Fm.of_bl hV).trans hfm⟩
        refine hK.out (FS s W2 pr ((d, v) :: Kb) row) _ _ (FS.stays _ _ _ _ _) (no_lean (by kernel_rfl)) hz6 ?_
        clear hK K hV hrun hput hfm hz6
        (try simp only [Act.put, List.getElem_toArray, List.getElem_cons_zero, List.getElem_cons_succ, List.setIfInBounds_toArray, List.set_cons_zero, List.set_cons_succ])
        refine wpDet_done (by kernel_rfl) (fun W3 hV => ?_) _
        obtain ⟨p3, n3, c3, hSt3, hfm3⟩ := hV
        have hn3 : n3 = nr := by rw [← hSt3.own.len, hrl]
        subst hn3
        have hlt2 : bx < W2.heap.size := World.block_lt_of_cell? _ _ k02
        have hbxm : ¬ s.may pr bx := by
          rintro (e | e | ⟨a, ha, e⟩)
          · have := hk.hB; omega
          · have := hk.mB; omega
          · have := hprb a ha; omega
        have k03 := (hfm3.1.cell (p := ⟨bx, 0, none⟩) hlt2 hbxm).trans k02
        have k13 := (hfm3.1.cell (p := ⟨bx, 1, none⟩) hlt2 hbxm).trans k12
        have hfm3' := hfm2.trans hfm3
        have hp3 : ∀ a, p3 = some a → a.block ≠ bx ∧ a.block < W3.heap.size := fun a ha => by
          refine ⟨?_, (hSt3.own.lt ha).2⟩
          rcases hfm3.2 a ha with ⟨a0, h1, h2⟩ | h1
          · have := hprb a0 h1; omega
          · omega
        clear hSt2 hfm2 k02 k12 hS0 c52 hfm3 hlt2
        have hT := tries_any W3 s.h s.p s.n s.c s.q s.e s.L s.mu s.ah s.rp s.rn s.rc s.R s.wp s.wn s.wc s.S hSt3.se hk.rn hk.wn hk.inR hk.inS d hd v
        have hTin := tries_in (L := s.L) (mu := s.mu) (ah := s.ah) hk.inR hk.inS d v
        generalize triesF s.n s.L s.mu s.ah s.R s.S d v = T at *
        go_wp2_with fail
        refine hT.mono ?_
        rintro e5 W5 ⟨tp, tn, tc, rfl, htn, hTr, hTb, hb5⟩
        have hSt5 := hSt3.below hb5
        have hfm5 := hfm3'.below hb5
        have k05 := (hb5.cell (p := ⟨bx, 0, none⟩) (World.block_lt_of_cell? _ _ k03)).trans k03
        have k15 := (hb5.cell (p := ⟨bx, 1, none⟩) (World.block_lt_of_cell? _ _ k13)).trans k13
        have hTl := hTr.len
        have hbx5 : bx < W5.heap.size := World.block_lt_of_cell? _ _ k05
        have hbxm5 : ¬ s.may p3 bx := by
          rintro (e | e | ⟨a, ha, e⟩)
          · have := hk.hB; omega
          · have := hk.mB; omega
          · exact (hp3 a ha).1 e
        have htm5 : ∀ a, tp = some a → 0 < tn → ¬ s.may p3 a.block := fun a ha h0 => by
          have h1 := hTb a h0 ha
          have h2 := hSt3.sz
          rintro (e | e | ⟨a0, ha0, e⟩)
          · have := hk.hB; omega
          · have := hk.mB; omega
          · have := (hp3 a0 ha0).2; omega
        clear hT hSt3 hfm3' k03 k13 hb5 hTb hp3 hbxm hprb
        have HG0 : Hid (goF (fun K' row' i => foundF s m K' row' (d ||| bitN i) (s.L.getD i.toNat .z0).s) (T.drop 0) ((d, v) :: Kb) row = some (r, K', row')) := HF2.out
        clear HF2
        go_wp2_with fail
        go_loopw [34] (fun vi wr => ∃ (k : Nat) (K1 : List (Nat × ByteArray)) (p1 : Option Addr) (c1 : Nat), k ≤ tn ∧ vi = .int .i64 k ∧ St s wr K1 p1 n3 c1 row ∧ Fm s W5 p3 wr p1 ∧ Hid (goF (fun K' row' i => foundF s m K' row' (d ||| bitN i) (s.L.getD i.toNat .z0).s) (T.drop k) K1 row = some (r, K', row'))) (fun vi _ => tn - (intOf vi).toNat)
        case atStart => exact ⟨0, _, p3, c3, Nat.zero_le _, rfl, hSt5, Fm.refl s W5 p3, HG0⟩
        case round =>
          clear hSt5 HG0
          obtain ⟨k, K1, p1, c1, hkt, rfl, hStr, hfmr, HG⟩ := hrel
          by_cases hkn : k < tn
          · obtain ⟨x, hx0, hx⟩ := hTin _ (getD_mem (k := k) (show k < T.length by omega))
            obtain ⟨tb, to, htp, htc⟩ := (hTr.ch0 hfmr.1 htm5).cells (by omega)
            have xk := htc k hkn
            rw [hx0] at xk
            have hdr := drop_int (xs := T) (k := k) (by omega)
            rw [hx0] at hdr
            have hG := HG.out
            rw [hdr] at hG
            have hki : (k : Int) < (tn : Int) := by omega
            have k0r := (hfmr.1.cell (p := ⟨bx, 0, none⟩) hbx5 hbxm5).trans k05
            have k1r := (hfmr.1.cell (p := ⟨bx, 1, none⟩) hbx5 hbxm5).trans k15
            have hbxm1 : ¬ s.may p1 bx := by
              rintro (e | e | ⟨a, ha, e⟩)
              · exact hbxm5 (Or.inl e)
              · exact hbxm5 (Or.inr (Or.inl e))
              · rcases hfmr.2 a ha with ⟨a0, h1, h2⟩ | h1
                · exact hbxm5 (Or.inr (Or.inr ⟨a0, h1, h2.trans e⟩))
                · omega
            have hba := below_alloc wr (.cells #[.int .i64 (x : Int)] 3)
            have hStA := hStr.below hba
            have hfmA := hfmr.below hba
            have k0a := (hba.cell (p := ⟨bx, 0, none⟩) (World.block_lt_of_cell? _ _ k0r)).trans k0r
            have k1a := (hba.cell (p := ⟨bx, 1, none⟩) (World.block_lt_of_cell? _ _ k1r)).trans k1r
            have c6r := hStr.c6
            obtain ⟨i0, hi0, hz0, hz1, hz2⟩ := info_parts infoI
            unfold goF at hG
            (try dsimp only at hG)
            rw [Int.toNat_natCast] at hG
            have HGn : Hid (∀ r1 K2 row2, foundF s m K1 (row ++ [(x : Int)]) (d ||| bitN (x : Int)) (s.L.getD x .z0).s = some (r1, K2, row2) → (r1 = true → (true, K2, row2) = (r, K', row')) ∧ (r1 = false → row2 = row ++ [(x : Int)] ∧ goF (fun K' row' i => foundF s m K' row' (d ||| bitN i) (s.L.getD i.toNat .z0).s) (T.drop (k + 1)) K2 row = some (r, K', row'))) := by
              intro r1 K2 row2 h1
              rw [h1] at hG
              cases r1 with
              | true => exact ⟨fun _ => Option.some.inj hG, fun h => absurd h (by decide)⟩
              | false =>
                refine ⟨fun h => absurd h (by decide), fun _ => ?_⟩
                dsimp only at hG
                by_cases he : row2 = row ++ [(x : Int)]
                · rw [if_pos he] at hG; exact ⟨he, hG⟩
                · rw [if_neg he] at hG; cases hG
            have HSm : Hid (∃ r1 K2 row2, foundF s m K1 (row ++ [(x : Int)]) (d ||| bitN (x : Int)) (s.L.getD x .z0).s = some (r1, K2, row2)) := by
              unfold Hid
              cases h1 : foundF s m K1 (row ++ [(x : Int)]) (d ||| bitN (x : Int)) (s.L.getD x .z0).s with
              | none => rw [h1] at hG; cases hG
              | some y => exact ⟨y.1, y.2.1, y.2.2, rfl⟩
            obtain ⟨r1, K2, row2, hst0⟩ := HSm.out
            have hst : Hid (foundF s m K1 (row ++ [(x : Int)]) (d ||| bitN (x : Int)) (s.L.getD x .z0).s = some (r1, K2, row2)) := hst0
            have HN : Hid ((r1 = true → (true, K2, row2) = (r, K', row')) ∧ (r1 = false → row2 = row ++ [(x : Int)] ∧ goF (fun K' row' i => foundF s m K' row' (d ||| bitN i) (s.L.getD i.toNat .z0).s) (T.drop (k + 1)) K2 row = some (r, K', row'))) := HGn.out r1 K2 row2 hst0
            have hd2 : d ||| bitN (x : Int) < 18446744073709551616 := or_lt64 hd (bitN_lt _)
            subst htp
            clear hG HG HGn HSm hst0 hdr hx0 htc hStr hfmr hba k0r k1r
            go_wp2_with (refine wpList_app2 _ rfl (.tmp 42) (.tmp 44) 30 rfl .i64 3 i0 (.int .i64 0) 8 Try.underlying30 hi0 hz0 hz1 hz2 rfl s.B p1 n3 c1 row rfl hStA.own _ 1 1 _ rfl (Rd.one _ _ _ _) ?c1 ?c2 ?c3 ?_)
            case c1 => omega
            case c2 => unfold maxLen; omega
            case c3 => exact hStA.sz
            intro p7 c7 w6 ho7 hg7
            obtain ⟨hSt7, hfm7⟩ := hStA.store hk hg7 ho7
            have hfm7' := hfmA.trans hfm7
            have hch := hg7.ch (s.may p1) (fun a ha => Or.inr (Or.inr ⟨a, ha, rfl⟩))
            have hch2 := hg7.ch (fun k => ∃ a, p1 = some a ∧ a.block = k) (fun a ha => ⟨a, ha, rfl⟩)
            have hnr : ¬ ∃ a, p1 = some a ∧ a.block = s.h := by
              rintro ⟨a, ha, e⟩
              have := (hStA.own.lt ha).1; have := hk.hB; omega
            have c66 : w6.cell? ⟨s.h, 6, none⟩ = some (.slice p1 n3 c1) := (hch2.cell (p := ⟨s.h, 6, none⟩) (World.block_lt_of_cell? _ _ hStA.c6) hnr).trans hStA.c6
            have f66 : w6.frozen? ⟨s.h, 6, none⟩ = false := (hch2.frozen (p := ⟨s.h, 6, none⟩) (World.block_lt_of_cell? _ _ hStA.c6) hnr).trans hStA.fz
            have hbh : s.h ≠ bx := by have := hk.hB; omega
            have hbxa := World.block_lt_of_cell? _ _ k0a
            have hbxm7 : ¬ s.may p7 bx := by
              rintro (e | e | ⟨a, ha, e⟩)
              · exact hbxm1 (Or.inl e)
              · exact hbxm1 (Or.inr (Or.inl e))
              · rcases hg7 with ⟨e1, _⟩ | ⟨_, h1⟩
                · exact hbxm1 (Or.inr (Or.inr ⟨a, e1 ▸ ha, e⟩))
                · have h2 := h1 a ha
                  have h3 : bx < (wr.alloc (.cells #[.int .i64 (x : Int)] 3)).heap.size := hbxa
                  omega
            have k07 : (w6.setCell ⟨s.h, 6, none⟩ (.slice p7 (n3 + 1) c7)).cell? ⟨bx, 0, none⟩ = some (.int .u64 (d : Int)) := by
              rw [World.cell?_setCell_other (h := fun e => hbh (congrArg Addr.block e))]
              exact (hch.cell (p := ⟨bx, 0, none⟩) (World.block_lt_of_cell? _ _ k0a) hbxm1).trans k0a
            have k17 : (w6.setCell ⟨s.h, 6, none⟩ (.slice p7 (n3 + 1) c7)).cell? ⟨bx, 1, none⟩ = some (.string v) := by
              rw [World.cell?_setCell_other (h := fun e => hbh (congrArg Addr.block e))]
              exact (hch.cell (p := ⟨bx, 1, none⟩) (World.block_lt_of_cell? _ _ k1a) hbxm1).trans k1a
            clear hStA hfmA hfm7 hch hch2 k0a k1a hg7 ho7 c6r hnr hbh
            go_wp2_with fail
            generalize hw7 : w6.setCell ⟨s.h, 6, none⟩ (.slice p7 (n3 + 1) c7) = w7 at *
            clear hw7 c66 f66
            have hPt7 : Pt s bx d v w7 := ⟨hSt7.se, k07, k17⟩
            have hS0 : Bl w7 w7.drew := (Below.refl _ _).drew
            refine wp_region_det [0, 1, 2, 3, 4, 5, 6] (Pt s bx d v) (Bl w7) (by kernel_rfl) hS0 ?_
            refine wpDet_take ?vG0 (Bl.stays w7) (fun _ h => hPt7.below (Bl.out h)) (i := 0) rfl (by kernel_rfl) (by kernel_rfl) (by kernel_rfl) (by kernel_rfl) (fun _ _ _ h => h) (Gives.value (by rfl) ?yG0) ?rG0
            case yG0 => (intro w' hSw; (try dsimp only at hSw); go_simp; try with_reducible rfl)
            (try simp only [Act.put, List.getElem_toArray, List.getElem_cons_zero, List.getElem_cons_succ, List.setIfInBounds_toArray, List.set_cons_zero, List.set_cons_succ])
            refine wpDet_take ?vG1 (Bl.stays w7) (fun _ h => hPt7.below (Bl.out h)) (i := 1) rfl (by kernel_rfl) (by kernel_rfl) (by kernel_rfl) (by kernel_rfl) (fun _ _ _ h => h) (Gives.value (by rfl) ?yG1) ?rG1
            case yG1 => (intro w' hSw; (try dsimp only at hSw); go_simp; try with_reducible rfl)
            (try simp only [Act.put, List.getElem_toArray, List.getElem_cons_zero, List.getElem_cons_succ, List.setIfInBounds_toArray, List.set_cons_zero, List.set_cons_succ])
            refine wpDet_take ?vG2 (Bl.stays w7) (fun _ h => hPt7.below (Bl.out h)) (i := 2) rfl (by kernel_rfl) (by kernel_rfl) (by kernel_rfl) (by kernel_rfl) (fun _ _ _ h => h) (Gives.value (by rfl) ?yG2) ?rG2
            case yG2 => (intro w' hSw; (try dsimp only at hSw); go_simp; try with_reducible rfl)
            (try simp only [Act.put, List.getElem_toArray, List.getElem_cons_zero, List.getElem_cons_succ, List.setIfInBounds_toArray, List.set_cons_zero, List.set_cons_succ])
            refine wpDet_take ?vG3 (Bl.stays w7) (fun _ h => hPt7.below (Bl.out h)) (i := 3) rfl (by kernel_rfl) (by kernel_rfl) (by kernel_rfl) (by kernel_rfl) (fun _ _ _ h => h) (Gives.value (by rfl) ?yG3) ?rG3
            case yG3 => (intro w' hSw; (try dsimp only at hSw); go_simp; try with_reducible rfl)
            (try simp only [Act.put, List.getElem_toArray, List.getElem_cons_zero, List.getElem_cons_succ, List.setIfInBounds_toArray, List.set_cons_zero, List.set_cons_succ])
            refine wpDet_take ?vG4 (Bl.stays w7) (fun _ h => hPt7.below (Bl.out h)) (i := 4) rfl (by kernel_rfl) (by kernel_rfl) (by kernel_rfl) (by kernel_rfl) (fun _ _ _ h => h) (Gives.value (by rfl) ?yG4) ?rG4
            case yG4 => (intro w' hSw; have zz0 := hSw.2.1; have zz1 := hSw.2.2; (try dsimp only at hSw); go_simp; try with_reducible rfl)
            (try simp only [Act.put, List.getElem_toArray, List.getElem_cons_zero, List.getElem_cons_succ, List.setIfInBounds_toArray, List.set_cons_zero, List.set_cons_succ])
            refine wpDet_take ?vG5 (Bl.stays w7) (fun _ h => hPt7.below (Bl.out h)) (i := 5) rfl (by kernel_rfl) (by kernel_rfl) (by kernel_rfl) (by kernel_rfl) (fun _ _ _ h => h) (Gives.value (by rfl) ?yG5) ?rG5
            case yG5 => (intro w' hSw; (try dsimp only at hSw); go_simp; try with_reducible rfl)
            (try simp only [Act.put, List.getElem_toArray, List.getElem_cons_zero, List.getElem_cons_succ, List.setIfInBounds_toArray, List.set_cons_zero, List.set_cons_succ])
            refine wpDet_take (.agg #[.int .u64 (d ||| bitN (x : Int) : Nat), .string (s.L.getD x .z0).s]) (Bl.stays w7) (fun _ h => hPt7.below (Bl.out h)) (i := 6) rfl (by kernel_rfl) (by kernel_rfl) (by kernel_rfl) (by kernel_rfl) (fun _ _ _ h => h) (Gives.call 29 #[.pointer (some ⟨s.h, 0, none⟩), .agg #[.int .u64 d, .string v], .int .i64 (x : Int)] (by rfl) (fun _ => by first | (go_simp; done) | (go_simp; rfl)) (fun W hW => (behind_any W s.h s.p s.n s.c s.q s.e s.L s.mu s.ah hW.1.pa d hd v x hx).mono fun e w' ⟨h1, h2⟩ => ⟨h1, h2⟩)) ?_
            (try simp only [Act.put, List.getElem_toArray, List.getElem_cons_zero, List.getElem_cons_succ, List.setIfInBounds_toArray, List.set_cons_zero, List.set_cons_succ])
            refine wpDet_ready (rs := [7]) (by kernel_rfl) (by simp) (AllDet.cons rfl (fun V hV K hK => ?_) AllDet.nil)
            rw [if_pos (by rfl)]
            have hC := ih K1 (row ++ [(x : Int)]) (d ||| bitN (x : Int)) (s.L.getD x .z0).s r1 K2 row2 V p7 (n3 + 1) c7 hst.out hd2 (hk.str x) (by omega) (hSt7.below (Bl.out hV))
            refine wp_enterX 25 #[.pointer (some ⟨s.h, 0, none⟩), .agg #[.int .u64 (d ||| bitN (x : Int) : Nat), .string (s.L.getD x .z0).s]] (by first | (go_simp; done) | (go_simp; rfl)) (fun y W => y = .bool r1 ∧ ∃ p8 n8 c8, St s W K2 p8 n8 c8 row2 ∧ Fm s V p7 W p8) hC ?_
            rintro y8 V8 ⟨rfl, p8, n8, c8, hSt8, hfm8⟩
            have hfm78 := (Fm.of_bl hV).trans hfm8
            have hz11 : FS s w7 p7 K2 row2 V8 ∧ Pt s bx d v V8 := ⟨⟨p8, n8, c8, hSt8, hfm78⟩, hSt8.se, (hfm78.1.cell (p := ⟨bx, 0, none⟩) (World.block_lt_of_cell? _ _ hPt7.2.1) hbxm7).trans hPt7.2.1, (hfm78.1.cell (p := ⟨bx, 1, none⟩) (World.block_lt_of_cell? _ _ hPt7.2.2) hbxm7).trans hPt7.2.2⟩
            refine hK.out (fun W => FS s w7 p7 K2 row2 W ∧ Pt s bx d v W) _ _ (fun W W' h hb => ⟨FS.stays _ _ _ _ _ W W' h.1 hb, h.2.below hb⟩) (fun _ _ h => h.2) hz11 ?_
            clear hK K hV hC hSt8 hfm8 hfm78 hz11
            (try simp only [Act.put, List.getElem_toArray, List.getElem_cons_zero, List.getElem_cons_succ, List.setIfInBounds_toArray, List.set_cons_zero, List.set_cons_succ])
            refine wpDet_done (by kernel_rfl) (fun W8 hV => ?_) _
            obtain ⟨⟨p8, n8, c8, hSt8, hfm8⟩, _⟩ := hV
            have hfm8' := hfm7'.trans hfm8
            clear hSt7 hfm7' k07 k17 hS0 hfm8 hst
            cases r1 with
            | true =>
              have HE : Hid ((true, K2, row2) = (r, K', row')) := HN.out.1 rfl
              go_wp2_with fail
              go_ret
              obtain ⟨rfl, e2⟩ := Prod.mk.inj HE.out
              obtain ⟨rfl, rfl⟩ := Prod.mk.inj e2
              exact ⟨_, rfl, rfl, p8, ⟨n8, c8, hSt8⟩, hfm5.trans hfm8'⟩
            | false =>
              obtain ⟨rfl, hG2⟩ := HN.out.2 rfl
              have HG2 : Hid (goF (fun K' row' i => foundF s m K' row' (d ||| bitN i) (s.L.getD i.toNat .z0).s) (T.drop (k + 1)) K2 row = some (r, K', row')) := hG2
              have hn8 : n8 = n3 + 1 := by rw [← hSt8.own.len, List.length_append, hrl]; rfl
              subst hn8
              obtain ⟨b8, o8, hp8, _⟩ := hSt8.own.rd.cells (by omega)
              have hc8 := hSt8.own.rd.cap
              subst hp8
              have c68 := hSt8.c6
              clear HN hG2
              go_wp2_with fail
              have hS0 : Bl W8 W8.drew := (Below.refl _ _).drew
              refine wp_region_det [0, 1, 2, 3, 4, 5, 6, 7, 8, 9, 10, 11, 13] (Bl W8) (Bl W8) (by kernel_rfl) hS0 ?_
              refine wpDet_take ?vJ0 (Bl.stays W8) (fun _ h => h) (i := 0) rfl (by kernel_rfl) (by kernel_rfl) (by kernel_rfl) (by kernel_rfl) (fun _ _ _ h => h) (Gives.value (by rfl) ?yJ0) ?rJ0
              case yJ0 => (intro w' hSw; (try dsimp only at hSw); go_simp; try with_reducible rfl)
              (try simp only [Act.put, List.getElem_toArray, List.getElem_cons_zero, List.getElem_cons_succ, List.setIfInBounds_toArray, List.set_cons_zero, List.set_cons_succ])
              refine wpDet_take ?vJ1 (Bl.stays W8) (fun _ h => h) (i := 1) rfl (by kernel_rfl) (by kernel_rfl) (by kernel_rfl) (by kernel_rfl) (fun _ _ _ h => h) (Gives.value (by rfl) ?yJ1) ?rJ1
              case yJ1 => (intro w' hSw; (try dsimp only at hSw); go_simp; try with_reducible rfl)
              (try simp only [Act.put, List.getElem_toArray, List.getElem_cons_zero, List.getElem_cons_succ, List.setIfInBounds_toArray, List.set_cons_zero, List.set_cons_succ])
              refine wpDet_take ?vJ2 (Bl.stays W8) (fun _ h => h) (i := 2) rfl (by kernel_rfl) (by kernel_rfl) (by kernel_rfl) (by kernel_rfl) (fun _ _ _ h => h) (Gives.value (by rfl) ?yJ2) ?rJ2
              case yJ2 => (intro w' hSw; (try dsimp only at hSw); go_simp; try with_reducible rfl)
              (try simp only [Act.put, List.getElem_toArray, List.getElem_cons_zero, List.getElem_cons_succ, List.setIfInBounds_toArray, List.set_cons_zero, List.set_cons_succ])
              refine wpDet_take ?vJ3 (Bl.stays W8) (fun _ h => h) (i := 3) rfl (by kernel_rfl) (by kernel_rfl) (by kernel_rfl) (by kernel_rfl) (fun _ _ _ h => h) (Gives.value (by rfl) ?yJ3) ?rJ3
              case yJ3 => (intro w' hSw; (try dsimp only at hSw); go_simp; try with_reducible rfl)
              (try simp only [Act.put, List.getElem_toArray, List.getElem_cons_zero, List.getElem_cons_succ, List.setIfInBounds_toArray, List.set_cons_zero, List.set_cons_succ])
              refine wpDet_take ?vJ4 (Bl.stays W8) (fun _ h => h) (i := 4) rfl (by kernel_rfl) (by kernel_rfl) (by kernel_rfl) (by kernel_rfl) (fun _ _ _ h => h) (Gives.value (by rfl) ?yJ4) ?rJ4
              case yJ4 => (intro w' hSw; have zz0 := ((show Below _ _ _ from hSw).cell (p := ⟨s.h, 6, none⟩) (World.block_lt_of_cell? _ _ c68)).trans c68; (try dsimp only at hSw); go_simp; try with_reducible rfl)
              (try simp only [Act.put, List.getElem_toArray, List.getElem_cons_zero, List.getElem_cons_succ, List.setIfInBounds_toArray, List.set_cons_zero, List.set_cons_succ])
              refine wpDet_take ?vJ5 (Bl.stays W8) (fun _ h => h) (i := 5) rfl (by kernel_rfl) (by kernel_rfl) (by kernel_rfl) (by kernel_rfl) (fun _ _ _ h => h) (Gives.value (by rfl) ?yJ5) ?rJ5
              case yJ5 => (intro w' hSw; (try dsimp only at hSw); go_simp; try with_reducible rfl)
              (try simp only [Act.put, List.getElem_toArray, List.getElem_cons_zero, List.getElem_cons_succ, List.setIfInBounds_toArray, List.set_cons_zero, List.set_cons_succ])
              refine wpDet_take ?vJ6 (Bl.stays W8) (fun _ h => h) (i := 6) rfl (by kernel_rfl) (by kernel_rfl) (by kernel_rfl) (by kernel_rfl) (fun _ _ _ h => h) (Gives.value (by rfl) ?yJ6) ?rJ6
              case yJ6 => (intro w' hSw; (try dsimp only at hSw); go_simp; try with_reducible rfl)
              (try simp only [Act.put, List.getElem_toArray, List.getElem_cons_zero, List.getElem_cons_succ, List.setIfInBounds_toArray, List.set_cons_zero, List.set_cons_succ])
              refine wpDet_take ?vJ7 (Bl.stays W8) (fun _ h => h) (i := 7) rfl (by kernel_rfl) (by kernel_rfl) (by kernel_rfl) (by kernel_rfl) (fun _ _ _ h => h) (Gives.value (by rfl) ?yJ7) ?rJ7
              case yJ7 => (intro w' hSw; (try dsimp only at hSw); go_simp; try with_reducible rfl)
              (try simp only [Act.put, List.getElem_toArray, List.getElem_cons_zero, List.getElem_cons_succ, List.setIfInBounds_toArray, List.set_cons_zero, List.set_cons_succ])
              refine wpDet_take ?vJ8 (Bl.stays W8) (fun _ h => h) (i := 8) rfl (by kernel_rfl) (by kernel_rfl) (by kernel_rfl) (by kernel_rfl) (fun _ _ _ h => h) (Gives.value (by rfl) ?yJ8) ?rJ8
              case yJ8 => (intro w' hSw; have zz0 := ((show Below _ _ _ from hSw).cell (p := ⟨s.h, 6, none⟩) (World.block_lt_of_cell? _ _ c68)).trans c68; (try dsimp only at hSw); go_simp; try with_reducible rfl)
              (try simp only [Act.put, List.getElem_toArray, List.getElem_cons_zero, List.getElem_cons_succ, List.setIfInBounds_toArray, List.set_cons_zero, List.set_cons_succ])
              refine wpDet_take ?vJ9 (Bl.stays W8) (fun _ h => h) (i := 9) rfl (by kernel_rfl) (by kernel_rfl) (by kernel_rfl) (by kernel_rfl) (fun _ _ _ h => h) (Gives.value (by rfl) ?yJ9) ?rJ9
              case yJ9 => (intro w' hSw; (try dsimp only at hSw); go_simp; try with_reducible rfl)
              (try simp only [Act.put, List.getElem_toArray, List.getElem_cons_zero, List.getElem_cons_succ, List.setIfInBounds_toArray, List.set_cons_zero, List.set_cons_succ])
              refine wpDet_take (.int .i64 (n3 : Int)) (Bl.stays W8) (fun _ h => h) (i := 10) rfl (by kernel_rfl) (by kernel_rfl) (by kernel_rfl) (by kernel_rfl) (fun _ _ _ h => h) (Gives.value (by rfl) ?yJ10) ?rJ10
              case yJ10 => (intro w' hSw; (try dsimp only at hSw); go_simp; first | done | exact wrapI n3 (by omega))
              (try simp only [Act.put, List.getElem_toArray, List.getElem_cons_zero, List.getElem_cons_succ, List.setIfInBounds_toArray, List.set_cons_zero, List.set_cons_succ])
              refine wpDet_take (.slice (some ⟨b8, o8, none⟩) n3 c8) (Bl.stays W8) (fun _ h => h) (i := 11) rfl (by kernel_rfl) (by kernel_rfl) (by kernel_rfl) (by kernel_rfl) (fun _ _ _ h => h) (Gives.value (by rfl) ?yJ11) ?rJ11
              case yJ11 => (intro w' hSw; (try dsimp only at hSw); go_simp; first | done | with_reducible rfl | (intro hq; exact absurd hq (by omega)))
              (try simp only [Act.put, List.getElem_toArray, List.getElem_cons_zero, List.getElem_cons_succ, List.setIfInBounds_toArray, List.set_cons_zero, List.set_cons_succ])
              refine wpDet_ready (rs := [12]) (by kernel_rfl) (by simp) (AllDet.cons rfl (fun V hV K hK => ?_) AllDet.nil)
              rw [if_pos (by rfl)]
              refine wp_value (.pointer (some ⟨s.h, 0, none⟩)) V (by first | (go_simp; done) | (go_simp; rfl)) ?_
              refine hK.out (Bl W8) _ _ (Bl.stays _) (fun _ _ h => h) hV ?_
              clear hK K hV
              (try simp only [Act.put, List.getElem_toArray, List.getElem_cons_zero, List.getElem_cons_succ, List.setIfInBounds_toArray, List.set_cons_zero, List.set_cons_succ])
              refine wpDet_take ?vJ13 (Bl.stays W8) (fun _ h => h) (i := 13) rfl (by kernel_rfl) (by kernel_rfl) (by kernel_rfl) (by kernel_rfl) (fun _ _ _ h => h) (Gives.value (by rfl) ?yJ13) ?rJ13
              case yJ13 => (intro w' hSw; (try dsimp only at hSw); go_simp; try with_reducible rfl)
              (try simp only [Act.put, List.getElem_toArray, List.getElem_cons_zero, List.getElem_cons_succ, List.setIfInBounds_toArray, List.set_cons_zero, List.set_cons_succ])
              refine wpDet_ready (rs := [14]) (by kernel_rfl) (by simp) (AllDet.cons rfl (fun V hV K hK => ?_) AllDet.nil)
              rw [if_pos (by rfl)]
              have hStV := hSt8.below (Bl.out hV)
              refine wp_store_any 30 _ _ rfl s.h 6 (.slice (some ⟨b8, o8, none⟩) n3 c8) _ rfl rfl sizeSl rfl rfl hStV.c6 hStV.fz ?_
              have hz13 : FS s W8 (some ⟨b8, o8, none⟩) K2 row (V.setCell ⟨s.h, 6, none⟩ (.slice (some ⟨b8, o8, none⟩) n3 c8)) := by
                  obtain ⟨q1, q2⟩ := hStV.cut hk (by omega)
                  exact ⟨some ⟨b8, o8, none⟩, n3, c8, q1, (Fm.of_bl hV).trans q2⟩
              refine hK.out (FS s W8 (some ⟨b8, o8, none⟩) K2 row) _ _ (FS.stays _ _ _ _ _) (no_lean (by kernel_rfl)) hz13 ?_
              clear hK K hV hStV hz13
              (try simp only [Act.put, List.getElem_toArray, List.getElem_cons_zero, List.getElem_cons_succ, List.setIfInBounds_toArray, List.set_cons_zero, List.set_cons_succ])
              refine wpDet_done (by kernel_rfl) (fun W9 hV => ?_) _
              obtain ⟨p9, n9, c9, hSt9, hfm9⟩ := hV
              have hn9 : n9 = n3 := by rw [← hSt9.own.len, hrl]
              subst hn9
              have hfm9' := hfm8'.trans hfm9
              clear hSt8 hfm8' hfm9 c68
              go_wp2_with fail
              go_roundw
              case rel => exact ⟨k + 1, K2, p9, c9, by omega, by go_num, hSt9, hfm9', HG2⟩
              case measure => simp [intOf]; omega
          · have HE : Hid ((false, K1, row) = (r, K', row')) := by
              have := HG.out
              rw [List.drop_of_length_le (by omega)] at this
              exact Option.some.inj this
            have hki : ¬ (k : Int) < (tn : Int) := by omega
            go_wp2_with fail
            go_ret
            obtain ⟨rfl, e2⟩ := Prod.mk.inj HE.out
            obtain ⟨rfl, rfl⟩ := Prod.mk.inj e2
            exact ⟨_, rfl, rfl, p1, ⟨n3, c1, hStr⟩, hfm5.trans hfmr⟩

end Go.Proofs.Ytmfmjoibofadlaa.M
