/-
  Own text: the contract of slices.Insert of one member: the two roads ahead of the end, and all roads.
-/
import Derived.Test.YtphdbpljgilcgaaDoorSIns
namespace Go.Proofs.YtphdbpljgilcgaaDoor.M
open Go.ChangeShapes Go.WideShapes Go.ChangeAt Go.RowKit

theorem shape_row {w : World} {g : Nat} {cs : Array Value} {t : TypeId} {fz : Nat × Nat} (h : w.heap[g]? = some (.cells cs t fz)) : w.shape? g = some (t, cs.size) := by
  unfold World.shape?
  rw [h]

set_option maxRecDepth 20000 in
set_option maxHeartbeats 4000000 in
theorem insert_shift (w : World) (B g N vb : Nat) (L : List Sn) (m : Sn) (n i : Nat) (hl : L.length = n) (ho : w.ownsRow B 36 9 (.slice (some ⟨g, 0, none⟩) n N) n (cellsM L n)) (hB : B ≤ g) (hn : n ≤ 1099511627776) (hin : i < n) (hroom : n + 1 ≤ N)
    (hv : w.heap[vb]? = some (.cells m.cs.toArray 36)) (hvg : vb ≠ g) :
    Calls Tryd.prog 24 #[.slice (some ⟨g, 0, none⟩) n N, .int .i64 i, .slice (some ⟨vb, 0, none⟩) 1 1] w fun e w' => ∃ b o c, e = .returned (.slice (some ⟨b, o, none⟩) (n + 1) c) ∧ B ≤ b ∧ RdM w' (some ⟨b, o, none⟩) (n + 1) c (insM L i m) ∧ Below B w w' := by
  obtain ⟨g1, cap1, e1, _, hR⟩ := Row.of_owns ho hl (by omega)
  obtain ⟨cur, hcur, hcs, hNm⟩ : ∃ cur : Array Value, w.heap[g]? = some (.cells cur 36 (0, 0)) ∧ cur.size = N * 9 ∧ N ≤ maxLen := by
    rcases ho.2 with ⟨h, _⟩ | ⟨g', cap, cur, h, _, h1, _, h3, h2, _⟩
    · cases h
    · cases h; exact ⟨cur, h1, h2, h3⟩
  cases e1
  have hN63 : N ≤ 9223372036854775807 := by unfold maxLen at hNm; omega
  have hnews : ∀ j u, (m.cs)[j]? = some u → w.cell? ⟨vb, j, none⟩ = some u := fun j u hj => by
    unfold World.cell?
    dsimp only
    rw [hv]
    simpa using hj
  have hov : ∀ (lb cb : Nat), (callFunc 33 #[.slice (some ⟨vb, 0, none⟩) 1 1, .slice (some ⟨g, (i + 1) * 9, none⟩) lb cb]).run Tryd.prog w = .ok (.value (.bool false)) w := fun lb cb => by
    rw [run_callFunc_extern Tryd.func33 (by kernel_rfl) (by kernel_rfl) (by kernel_rfl) (e := Extern.SlicesOverlaps.overlaps #[23, 23] #[4]) (by kernel_rfl),
      Lib.run_overlaps_apart w 23 4 36 Tryd.underlying23 9 Tryd.sizeOf36 ⟨vb, 0, none⟩ ⟨g, (i + 1) * 9, none⟩ 1 1 lb cb hvg _ _ _ _ (shape_row hv) (shape_row hcur) (by rw [hcs]; omega) (frozen_of_row w vb _ _ _ hv) (frozen_of_row w vb _ _ _ hv)]
    rfl
  have hth : w.drew.there g ((i + 1) * 9) (tailC L i n).length := fun j hj => by
    rw [tailC_len] at hj
    have := hR.there ((i + 1) * 9 + j) (by omega)
    rw [Nat.zero_add] at this
    exact this
  have hcp1 : ∀ ty dc sc, (Builtin.copy_ #[23, 23] ty #[.slice (some ⟨g, (i + 1) * 9, none⟩) (n - i) dc, .slice (some ⟨g, i * 9, none⟩) (n + 1 - i) sc]).run Tryd.prog w.drew = .ok (goInt (Nat.min (n + 1 - i) (n - i))) (w.drew.setCells g ((i + 1) * 9) (tailC L i n)) := fun ty dc sc =>
    run_copy3 w.drew _ _ ty 36 g ((i + 1) * 9) (n - i) dc ⟨g, i * 9, none⟩ (n + 1 - i) sc (tailC L i n) Tryd.underlying23 sizeM (by rw [tailC_len]; simp only [Nat.min_def]; split <;> omega)
      (fun j v hj => by
        have hj' : j < (n - i) * 9 := by
          rcases Nat.lt_or_ge j ((n - i) * 9) with h | h
          · exact h
          · rw [List.getElem?_eq_none (by rw [tailC_len]; exact h)] at hj; cases hj
        rw [tailC_get hj'] at hj
        rw [Addr.add_lit]
        exact (hR.cells (i * 9 + j) (by omega)).trans hj) hth (fun v hv => cellsM_one v (List.mem_of_mem_drop hv))
  obtain ⟨W1, hW1⟩ : ∃ W1, W1 = w.drew.setCells g ((i + 1) * 9) (tailC L i n) := ⟨_, rfl⟩
  have hW1v : ∀ j, W1.cell? ⟨vb, j, none⟩ = w.cell? ⟨vb, j, none⟩ := fun j => by
    rw [hW1, World.cell?_setCells_out g _ _ _ ⟨vb, j, none⟩ (fun h _ => absurd h hvg)]
    rfl
  have hthd : w.drew.there g 0 (N * 9) := fun j hj => hR.there j hj
  have hth1 : W1.there g 0 (N * 9) := by rw [hW1]; exact World.there_setCells hthd _ _ _
  have hth2 : W1.there g (i * 9) m.cs.length := fun j hj => by
    have := hth1 (i * 9 + j) (by have : m.cs.length = 9 := rfl; omega)
    rw [Nat.zero_add] at this
    exact this
  have hcp2 : ∀ (W : World), (∀ x, W.cell? x = W1.cell? x) → (∀ x, W.frozen? x = W1.frozen? x) → ∀ ty dc, (Builtin.copy_ #[23, 23] ty #[.slice (some ⟨g, i * 9, none⟩) (n + 1 - i) dc, .slice (some ⟨vb, 0, none⟩) 1 1]).run Tryd.prog W = .ok (goInt (Nat.min 1 (n + 1 - i))) (W.setCells g (i * 9) m.cs) := fun W hWc hWf ty dc =>
    run_copy3 W _ _ ty 36 g (i * 9) (n + 1 - i) dc ⟨vb, 0, none⟩ 1 1 m.cs Tryd.underlying23 sizeM (by show 9 = _; simp only [Nat.min_def]; split <;> omega)
      (fun j v hj => by rw [hWc, Addr.add_lit, Nat.zero_add, hW1v]; exact hnews j v hj) (fun j hj => by rw [hWc, hWf]; exact hth2 j hj) (cs_one m)
  rw [← hW1] at hcp1
  have hrd : RdM (W1.setCells g (i * 9) m.cs) (some ⟨g, 0, none⟩) (n + 1) N (insM L i m) := by
    refine ins_rd hl (by omega) hroom (fun j hj => ?_) (fun r hr => ?_) (fun j hj => ?_)
    · rw [World.cell?_setCells_out g _ _ W1 ⟨g, j, none⟩ (fun _ _ => Or.inl hj), hW1, World.cell?_setCells_out g _ _ _ ⟨g, j, none⟩ (fun _ _ => Or.inl (by show j < (i + 1) * 9; omega))]
      exact hR.cells j (by omega)
    · rw [World.cell?_setCells_in g m.cs (i * 9) W1 (fun k hk => (hth2 k hk).1) r hr, List.getElem?_eq_getElem hr]
    · rw [World.cell?_setCells_out g _ _ W1 ⟨g, i * 9 + 9 + j, none⟩ (fun _ _ => Or.inr (by show i * 9 + 9 ≤ i * 9 + 9 + j; omega)), hW1, show i * 9 + 9 + j = (i + 1) * 9 + j by omega, World.cell?_setCells_in g (tailC L i n) ((i + 1) * 9) w.drew (fun k hk => (hth k hk).1) j (by rw [tailC_len]; exact hj), ← List.getElem?_eq_getElem, tailC_get hj]
  have hbb : Below B w (W1.setCells g (i * 9) m.cs) := below_setC hB _ _ _ (by rw [hW1]; exact below_setC hB _ _ _ ((Below.refl _ _).drew))
  have hw1 : IntKind.i64.wrap ((i : Int) + 1) = (i : Int) + 1 := by rw [IntKind.wrap_i64]; omega
  have hb1 : (0 : Int) ≤ (i : Int) + 1 := by omega
  have htn : ((i : Int) + 1).toNat = i + 1 := by omega
  have hz2 : ((i : Int) == (n : Int)) = false := by simp; omega
  have hz3 : decide ((N : Int) < (n : Int) + 1) = false := decide_eq_false (by omega)
  have hb2 : ¬ (N = i + 1) := by omega
  have hb3 : (i : Int) ≤ (n : Int) + 1 := by omega
  have hb4 : ¬ (N = i) := by omega
  have hin2 : i ≤ n := by omega
  clear hth hth1 hth2 hW1v hnews hthd hcur hv ho hR
  go_enter Tryd.func24, Tryd.ntmps24
  go_wp2_with (simp only [hov])
  go_region_law (refine step_copy_run rfl _ _ 23 23 rfl _ _ (by simp [Act.eval, Act.put]) (by simp [Act.eval, Act.put]) (hcp1 _ _ _) ?_)
  go_wp2_with (at_builtin; refine wpList_copy_run _ rfl _ _ 23 23 rfl _ _ rfl rfl (hcp2 _ (fun _ => rfl) (fun _ => rfl) _ _) ?_)
  go_ret
  rw [hW1] at hrd hbb
  exact ⟨_, _, _, rfl, hB, hrd, hbb⟩

theorem drew_setC (b : Nat) : ∀ (vs : List Value) (o : Nat) (w : World), w.drew.setCells b o vs = (w.setCells b o vs).drew
  | [], _, _ => rfl
  | v :: r, o, w => by rw [World.setCells, World.setCells, ← drew_setC b r]; rfl

theorem cell_drewn (w : World) (x : Addr) : w.drew.cell? x = w.cell? x := rfl

theorem frozen_drewn (w : World) (x : Addr) : w.drew.frozen? x = w.frozen? x := rfl

theorem zeroC_size (z : Array Value) (k : Nat) : (Builtin.zeroCells z k).size = k * z.size := by simp [Builtin.zeroCells]

set_option maxRecDepth 20000 in
set_option maxHeartbeats 4000000 in
theorem insert_grow (w : World) (g N vb : Nat) (L : List Sn) (m : Sn) (n i : Nat) (hl : L.length = n) (hR : Row w g N L) (hn : n ≤ 1099511627776) (hin : i < n) (hroom : N < n + 1)
    (hv : w.heap[vb]? = some (.cells m.cs.toArray 36)) :
    Calls Tryd.prog 24 #[.slice (some ⟨g, 0, none⟩) n N, .int .i64 i, .slice (some ⟨vb, 0, none⟩) 1 1] w fun e w' => ∃ b o c, e = .returned (.slice (some ⟨b, o, none⟩) (n + 1) c) ∧ w.heap.size ≤ b ∧ RdM w' (some ⟨b, o, none⟩) (n + 1) c (insM L i m) ∧ Below w.heap.size w w' := by
  obtain ⟨i0, hi0, hz0, hz1, hz2⟩ := info_parts infoM
  have hnN := hR.le
  have hgw := hR.lt
  have hvw : vb < w.heap.size := (Array.getElem?_eq_some_iff.1 hv).1
  have hnews : ∀ j u, (m.cs)[j]? = some u → w.cell? ⟨vb, j, none⟩ = some u := fun j u hj => by
    unfold World.cell?
    dsimp only
    rw [hv]
    simpa using hj
  have hold : (Builtin.firstCells i0.size i (.slice (some ⟨g, 0, none⟩) i N)).run Tryd.prog w.drew = .ok ((cellsM L n).take (i * 9)).toArray w.drew := by
    rw [hz1]
    exact run_firstCells_some w.drew 9 i ⟨g, 0, none⟩ i N ((cellsM L n).take (i * 9)) (by simp [cellsM]; omega) (fun j v hj => by
      rw [Addr.add_lit, Nat.zero_add]
      rw [List.getElem?_take] at hj
      split at hj
      · next h => rw [cellsM_get L n (by omega)] at hj; exact (hR.cells j (by omega)).trans hj
      · cases hj)
  have hkk : (n : Int) + 1 - (i : Int) = ((n + 1 - i : Nat) : Int) := by omega
  have hik : i + (n + 1 - i) = n + 1 := by omega
  obtain ⟨G, hG⟩ : ∃ G, G = grownCap w (n + 1) N 36 := ⟨_, rfl⟩
  obtain ⟨ROW, hROW⟩ : ∃ ROW : Array Value, ROW = ((cellsM L n).take (i * 9)).toArray ++ Builtin.zeroCells (Value.agg #[.int .u8 0, .int .u8 0, .int .u8 0, .int .u8 0, .int .u8 0, .int .u8 0, .int .u8 0, .int .u8 0, .int .i64 0]).cells (n + 1 - i) ++ Builtin.zeroCells (Value.agg #[.int .u8 0, .int .u8 0, .int .u8 0, .int .u8 0, .int .u8 0, .int .u8 0, .int .u8 0, .int .u8 0, .int .i64 0]).cells (G - (n + 1)) := ⟨_, rfl⟩
  have hrz : ∀ ty, (Builtin.append_ #[23, 3] ty #[.slice (some ⟨g, 0, none⟩) i N, .int .i64 ((n : Int) + 1 - (i : Int))]).run Tryd.prog w =
      .ok (.slice (some ⟨w.heap.size, 0, none⟩) (n + 1) G) (w.drew.alloc (.cells ROW 36)) := fun ty => by
    have h := Lib.run_append_grow_zeros w 23 3 ty 36 i0 _ .i64 .i64 Tryd.underlying23 Tryd.underlying3 hi0 hz0 (some ⟨g, 0, none⟩) i N ((cellsM L n).take (i * 9)) hold (n + 1 - i) (by omega) (by omega) (by omega) (by omega) (by rw [hz2]; omega) (by rw [hz2, hik]; exact growslice_fits hroom (by omega))
    rw [hik] at h
    rw [hkk, hROW, hG]
    exact h
  have hGn : n + 1 ≤ G := by rw [hG]; exact grownCap_ge w _ _ _
  have hG63 : G ≤ 9223372036854775807 := by
    have := grownCap_le_maxLen w (n + 1) N 36 (by unfold maxLen; omega)
    rw [← hG] at this
    unfold maxLen at this
    omega
  have hRs : ROW.size = G * 9 := by
    rw [hROW]
    simp only [Array.size_append, zeroC_size]
    have : (Value.agg #[.int .u8 0, .int .u8 0, .int .u8 0, .int .u8 0, .int .u8 0, .int .u8 0, .int .u8 0, .int .u8 0, .int .i64 0]).cells.size = 9 := rfl
    rw [this]
    simp [cellsM]
    omega
  have hRc : ∀ j, j < i * 9 → ROW[j]? = some (cellAt L j) := fun j hj => by
    rw [hROW, Array.append_assoc, Array.getElem?_append_left (by simp [cellsM]; omega)]
    simp only [List.getElem?_toArray]
    rw [List.getElem?_take, if_pos hj, cellsM_get L n (by omega)]
  obtain ⟨W1, hW1⟩ : ∃ W1, W1 = w.drew.alloc (.cells ROW 36) := ⟨_, rfl⟩
  have hN : W1.there w.heap.size 0 (G * 9) := fun j hj => by
    rw [Nat.zero_add, hW1]
    refine ⟨?_, World.frozen?_alloc_at (w := w.drew) ROW _ w.heap.size j rfl⟩
    rw [World.cell?_alloc_at (w := w.drew) ROW _ w.heap.size j rfl, Array.getElem?_eq_getElem (by omega)]
    rfl
  have hb1 : Below w.heap.size w W1 := by rw [hW1]; exact ((Below.refl w.heap.size w).drew).alloc (Nat.le_refl _) _
  have hthA : W1.there w.heap.size (i * 9) m.cs.length := fun j hj => by
    have := hN (i * 9 + j) (by have : m.cs.length = 9 := rfl; omega)
    rw [Nat.zero_add] at this
    exact this
  have hcpA : ∀ (W : World), (∀ x, W.cell? x = W1.cell? x) → (∀ x, W.frozen? x = W1.frozen? x) → ∀ ty dc, (Builtin.copy_ #[23, 23] ty #[.slice (some ⟨w.heap.size, i * 9, none⟩) (n + 1 - i) dc, .slice (some ⟨vb, 0, none⟩) 1 1]).run Tryd.prog W = .ok (goInt (Nat.min 1 (n + 1 - i))) (W.setCells w.heap.size (i * 9) m.cs) := fun W hWc hWf ty dc =>
    run_copy3 W _ _ ty 36 w.heap.size (i * 9) (n + 1 - i) dc ⟨vb, 0, none⟩ 1 1 m.cs Tryd.underlying23 sizeM (by show 9 = _; simp only [Nat.min_def]; split <;> omega)
      (fun j v hj => by rw [hWc, Addr.add_lit, Nat.zero_add, hb1.cell (p := ⟨vb, j, none⟩) hvw]; exact hnews j v hj) (fun j hj => by rw [hWc, hWf]; exact hthA j hj) (cs_one m)
  obtain ⟨W2, hW2⟩ : ∃ W2, W2 = W1.setCells w.heap.size (i * 9) m.cs := ⟨_, rfl⟩
  have hb2 : Below w.heap.size w W2 := by rw [hW2]; exact below_setC (Nat.le_refl _) _ _ _ hb1
  have hthB : W2.there w.heap.size ((i + 1) * 9) (tailC L i n).length := fun j hj => by
    rw [tailC_len] at hj
    have h2 : W2.there w.heap.size 0 (G * 9) := by rw [hW2]; exact World.there_setCells hN _ _ _
    have := h2 ((i + 1) * 9 + j) (by omega)
    rw [Nat.zero_add] at this
    exact this
  have hcpB : ∀ (W : World), (∀ x, W.cell? x = W2.cell? x) → (∀ x, W.frozen? x = W2.frozen? x) → ∀ ty dc sc, (Builtin.copy_ #[23, 23] ty #[.slice (some ⟨w.heap.size, (i + 1) * 9, none⟩) (n - i) dc, .slice (some ⟨g, i * 9, none⟩) (n - i) sc]).run Tryd.prog W = .ok (goInt (Nat.min (n - i) (n - i))) (W.setCells w.heap.size ((i + 1) * 9) (tailC L i n)) := fun W hWc hWf ty dc sc =>
    run_copy3 W _ _ ty 36 w.heap.size ((i + 1) * 9) (n - i) dc ⟨g, i * 9, none⟩ (n - i) sc (tailC L i n) Tryd.underlying23 sizeM (by rw [tailC_len]; simp only [Nat.min_def]; split <;> omega)
      (fun j v hj => by
        have hj' : j < (n - i) * 9 := by
          rcases Nat.lt_or_ge j ((n - i) * 9) with h | h
          · exact h
          · rw [List.getElem?_eq_none (by rw [tailC_len]; exact h)] at hj; cases hj
        rw [tailC_get hj'] at hj
        rw [hWc, Addr.add_lit, hb2.cell (p := ⟨g, i * 9 + j, none⟩) hgw]
        exact (hR.cells (i * 9 + j) (by omega)).trans hj) (fun j hj => by rw [hWc, hWf]; exact hthB j hj) (fun v hv => cellsM_one v (List.mem_of_mem_drop hv))
  have hrd : ∀ (W : World), (∀ x, W.cell? x = (W2.setCells w.heap.size ((i + 1) * 9) (tailC L i n)).cell? x) → RdM W (some ⟨w.heap.size, 0, none⟩) (n + 1) G (insM L i m) := fun W hWc => by
    refine ins_rd hl (by omega) hGn (fun j hj => ?_) (fun r hr => ?_) (fun j hj => ?_)
    · rw [hWc, World.cell?_setCells_out _ _ _ W2 ⟨w.heap.size, j, none⟩ (fun _ _ => Or.inl (by show j < (i + 1) * 9; omega)), hW2, World.cell?_setCells_out _ _ _ _ ⟨w.heap.size, j, none⟩ (fun _ _ => Or.inl hj), hW1, World.cell?_alloc_at (w := w.drew) ROW _ w.heap.size j rfl, hRc j hj]
    · rw [hWc, World.cell?_setCells_out _ _ _ W2 ⟨w.heap.size, i * 9 + r, none⟩ (fun _ _ => Or.inl (by show i * 9 + r < (i + 1) * 9; omega)), hW2, World.cell?_setCells_in _ m.cs (i * 9) W1 (fun k hk => (hthA k hk).1) r hr, List.getElem?_eq_getElem hr]
    · rw [hWc, show i * 9 + 9 + j = (i + 1) * 9 + j by omega, World.cell?_setCells_in _ (tailC L i n) ((i + 1) * 9) W2 (fun k hk => (hthB k hk).1) j (by rw [tailC_len]; exact hj), ← List.getElem?_eq_getElem, tailC_get hj]
  have hbb : Below w.heap.size w (W2.setCells w.heap.size ((i + 1) * 9) (tailC L i n)) := below_setC (Nat.le_refl _) _ _ _ hb2
  subst hW2
  subst hW1
  have hD : (w.alloc (.cells ROW 36)).drew = w.drew.alloc (.cells ROW 36) := rfl
  have hE1 : ∀ x, ((w.alloc (.cells ROW 36)).drew).cell? x = (w.drew.alloc (.cells ROW 36)).cell? x := fun x => by rw [hD]
  have hE2 : ∀ x, ((w.alloc (.cells ROW 36)).drew).frozen? x = (w.drew.alloc (.cells ROW 36)).frozen? x := fun x => by rw [hD]
  have hF1 : ∀ x, (((w.alloc (.cells ROW 36)).drew.setCells w.heap.size (i * 9) m.cs).drew).cell? x = ((w.drew.alloc (.cells ROW 36)).setCells w.heap.size (i * 9) m.cs).cell? x := fun x => by rw [hD]; exact cell_drewn _ x
  have hF2 : ∀ x, (((w.alloc (.cells ROW 36)).drew.setCells w.heap.size (i * 9) m.cs).drew).frozen? x = ((w.drew.alloc (.cells ROW 36)).setCells w.heap.size (i * 9) m.cs).frozen? x := fun x => by rw [hD]; exact frozen_drewn _ x
  have hw1 : IntKind.i64.wrap ((i : Int) + 1) = (i : Int) + 1 := by rw [IntKind.wrap_i64]; omega
  have hp1 : (0 : Int) ≤ (i : Int) + 1 := by omega
  have htn : ((i : Int) + 1).toNat = i + 1 := by omega
  have hq2 : ((i : Int) == (n : Int)) = false := by simp; omega
  have hq3 : (N : Int) < (n : Int) + 1 := by omega
  have hq4 : (i : Int) ≤ (n : Int) := by omega
  have hGi : ¬ (G = i) := by omega
  have hGim : ¬ (G = i + 1) := by omega
  have hci : ¬ (N = i) := by omega
  clear hD hkk hik hold hROW hG hRs hRc hN hthA hthB hb1 hb2 hnews hv hR
  go_enter Tryd.func24, Tryd.ntmps24
  go_wp2_with (first
    | (at_builtin; refine Lib.wpList_append_run _ rfl _ _ _ _ rfl _ _ rfl rfl _ _ (hrz _) ?_)
    | (at_builtin; refine wpList_copy_run _ rfl _ _ 23 23 rfl _ _ rfl rfl (hcpA _ hE1 hE2 _ _) ?_))
  go_region_law (refine step_copy_run rfl _ _ 23 23 rfl (.slice (some ⟨w.heap.size, (i + 1) * 9, none⟩) (n - i) (G - (i + 1))) (.slice (some ⟨g, i * 9, none⟩) (n - i) (N - i)) (by simp [Act.eval, Act.put]) (by simp [Act.eval, Act.put]) (hcpB _ hF1 hF2 3 (G - (i + 1)) (N - i)) ?_)
  go_wp2_with fail
  go_ret
  have hX : ((w.alloc (.cells ROW 36)).drew.setCells w.heap.size (i * 9) m.cs).drew.setCells w.heap.size ((i + 1) * 9) (tailC L i n) = (((w.drew.alloc (.cells ROW 36)).setCells w.heap.size (i * 9) m.cs).setCells w.heap.size ((i + 1) * 9) (tailC L i n)).drew := by
    rw [show (w.alloc (.cells ROW 36)).drew = w.drew.alloc (.cells ROW 36) from rfl]
    generalize (w.drew.alloc (.cells ROW 36)).setCells w.heap.size (i * 9) m.cs = Z
    exact drew_setC _ _ _ _
  rw [hX]
  exact ⟨_, _, _, rfl, Nat.le_refl _, hrd _ (fun _ => rfl), hbb.drew⟩

theorem insert_any (w : World) (B g N vb : Nat) (L : List Sn) (m : Sn) (n i : Nat) (hl : L.length = n) (h0 : 0 < n) (ho : w.ownsRow B 36 9 (.slice (some ⟨g, 0, none⟩) n N) n (cellsM L n)) (hB : B ≤ w.heap.size) (hn : n ≤ 1099511627776) (hin : i ≤ n)
    (hv : w.heap[vb]? = some (.cells m.cs.toArray 36)) (hvg : vb ≠ g) :
    Calls Tryd.prog 24 #[.slice (some ⟨g, 0, none⟩) n N, .int .i64 i, .slice (some ⟨vb, 0, none⟩) 1 1] w fun e w' => ∃ b o c, e = .returned (.slice (some ⟨b, o, none⟩) (n + 1) c) ∧ B ≤ b ∧ RdM w' (some ⟨b, o, none⟩) (n + 1) c (insM L i m) ∧ Below B w w' := by
  obtain ⟨g1, cap1, e1, hBg, hR⟩ := Row.of_owns ho hl h0
  cases e1
  rcases Nat.eq_or_lt_of_le hin with rfl | h
  · exact insert_end w B g N vb L m i hl ho hB hn hv
  · rcases Nat.lt_or_ge N (n + 1) with hr | hr
    · exact (insert_grow w g N vb L m n i hl hR hn h hr hv).mono fun e w' ⟨b, o, c, h1, h4, h2, h3⟩ => ⟨b, o, c, h1, Nat.le_trans hB h4, h2, h3.mono hB⟩
    · exact insert_shift w B g N vb L m n i hl ho hBg hn h hr hv hvg

end Go.Proofs.YtphdbpljgilcgaaDoor.M
