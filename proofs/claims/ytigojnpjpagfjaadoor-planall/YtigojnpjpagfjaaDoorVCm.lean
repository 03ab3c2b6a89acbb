/-
  Own text: commands in memory, appended one by one; the program's Next.
-/
import Derived.Test.YtigojnpjpagfjaaDoorVPure
import Derived.Deep.LoopGhost
namespace Go.Proofs.YtigojnpjpagfjaaDoor.M
open Go.ChangeShapes Go.WideShapes Go.ChangeAt Go.RowKit

/-- A command as cells; several. -/
def Cm.cs (x : Cm) : List Value := [.int .i64 x.k, .int .i64 x.n, .int .i64 x.s, .int .i64 x.e]
def cellsC (L : List Cm) : List Value := L.flatMap Cm.cs

theorem cellsC_snoc (L : List Cm) (x : Cm) : cellsC (L ++ [x]) = cellsC L ++ x.cs := by simp [cellsC]

theorem cellsC_get : ∀ (L : List Cm) (i r : Nat), i < L.length → r < 4 → (cellsC L)[i * 4 + r]? = (L.getD i .z0).cs[r]?
  | [], i, r, h, _ => by cases h
  | x :: l, 0, r, _, hr => by
    show (x.cs ++ cellsC l)[0 * 4 + r]? = x.cs[r]?
    rw [Nat.zero_mul, Nat.zero_add, List.getElem?_append_left (by exact hr)]
  | x :: l, i + 1, r, h, hr => by
    show (x.cs ++ cellsC l)[(i + 1) * 4 + r]? = _
    rw [List.getElem?_append_right (by show 4 ≤ _; omega), show (i + 1) * 4 + r - x.cs.length = i * 4 + r by show (i + 1) * 4 + r - 4 = _; omega]
    exact cellsC_get l i r (by simpa using h) hr

/-- Commands that can be read. -/
structure RdC (w : World) (p : Option Addr) (n c : Nat) (L : List Cm) : Prop where
  len : L.length = n
  cap : n ≤ c
  nil : p = none → c = 0
  cells : 0 < n → ∃ b o, p = some ⟨b, o, none⟩ ∧ ∀ i, i < n → w.cell? ⟨b, o + i * 4, none⟩ = some (.int .i64 (L.getD i .z0).k) ∧ w.cell? ⟨b, o + i * 4 + 1, none⟩ = some (.int .i64 (L.getD i .z0).n) ∧ w.cell? ⟨b, o + i * 4 + 2, none⟩ = some (.int .i64 (L.getD i .z0).s) ∧ w.cell? ⟨b, o + i * 4 + 3, none⟩ = some (.int .i64 (L.getD i .z0).e)

theorem RdC.below {w w' : World} {p : Option Addr} {n c : Nat} {L : List Cm} (h : RdC w p n c L) (hb : Below w.heap.size w w') : RdC w' p n c L := by
  refine ⟨h.len, h.cap, h.nil, fun hn => ?_⟩
  obtain ⟨b, o, hp, hc⟩ := h.cells hn
  refine ⟨b, o, hp, fun i hi => ?_⟩
  obtain ⟨h1, h2, h3, h4⟩ := hc i hi
  exact ⟨cell_bel0 hb h1, cell_bel0 hb h2, cell_bel0 hb h3, cell_bel0 hb h4⟩

/-- A slice of the call's own that holds commands. -/
def OwC (w : World) (B : Nat) (v : Value) (L : List Cm) : Prop := w.ownsRow B 37 4 v L.length (cellsC L)

theorem OwC.nil (w : World) (B : Nat) : OwC w B (.slice none 0 0) [] := ⟨by simp [cellsC], Or.inl ⟨rfl, rfl⟩⟩

theorem OwC.below {w w' : World} {B : Nat} {v : Value} {L : List Cm} (h : OwC w B v L) (hb : Below w.heap.size w w') : OwC w' B v L := owns_below h hb

theorem OwC.own {w : World} {B : Nat} {v : Value} {L : List Cm} (h : OwC w B v L) {r : Nat} (hr : v.ownBlock = some r) : B ≤ r ∧ r < w.heap.size := by
  rcases h.2 with ⟨rfl, _⟩ | ⟨g, cap, cur, rfl, hg, hh, _⟩
  · cases hr
  · cases hr
    exact ⟨hg, (Array.getElem?_eq_some_iff.1 hh).1⟩

theorem OwC.shape {w : World} {B : Nat} {v : Value} {L : List Cm} (h : OwC w B v L) : ∃ q c, v = .slice q L.length c := by
  rcases h.2 with ⟨rfl, h0⟩ | ⟨g, cap, cur, rfl, hg, hh, _⟩
  · exact ⟨none, 0, by rw [h0]⟩
  · exact ⟨_, _, rfl⟩

theorem OwC.set {W : World} {B x : Nat} {v u : Value} {L : List Cm} (h : OwC W B v L) (hx : x < B) (j : Nat) : OwC (W.setCell ⟨x, j, none⟩ u) B v L := by
  unfold OwC at *
  refine ⟨h.1, ?_⟩
  rcases h.2 with h2 | ⟨g, cap, cur, hv, hg, hh, r⟩
  · exact Or.inl h2
  · exact Or.inr ⟨g, cap, cur, hv, hg, by rw [Below.heap_setCell _ _ _ _ (by show g ≠ x; omega)]; exact hh, r⟩

theorem OwC.rd {w : World} {B : Nat} {v : Value} {L : List Cm} (h : OwC w B v L) : ∃ q c, v = .slice q L.length c ∧ RdC w q L.length c L := by
  have h' := h
  rcases h.2 with ⟨rfl, h0⟩ | ⟨g, cap, cur, rfl, hg, hh, hc, hr⟩
  · have : L = [] := List.length_eq_zero_iff.1 h0
    subst this
    exact ⟨none, 0, rfl, rfl, Nat.le_refl _, fun _ => rfl, fun h => absurd h (Nat.lt_irrefl _)⟩
  · refine ⟨_, _, rfl, rfl, hc, (fun e => by cases e), fun _ => ⟨g, 0, rfl, fun i hi => ?_⟩⟩
    have k : ∀ r u, r < 4 → (L.getD i .z0).cs[r]? = some u → w.cell? ⟨g, 0 + i * 4 + r, none⟩ = some u := fun r u hr hu => by
      have := World.ownsRow.cells h' (g := g) rfl (i * 4 + r) u (by rw [cellsC_get L i r hi hr]; exact hu)
      rw [Addr.add_lit] at this
      rw [Nat.add_assoc]
      exact this
    exact ⟨k 0 _ (by decide) rfl, k 1 _ (by decide) rfl, k 2 _ (by decide) rfl, k 3 _ (by decide) rfl⟩

theorem infoCm : (Tryd.prog.info? 37).map (fun i => (i.zero, i.size, i.bytes)) = some (some (.agg #[.int .i64 0, .int .i64 0, .int .i64 0, .int .i64 0]), 4, 32) := by kernel_rfl

theorem app_cm (w : World) (ty : TypeId) (B : Nat) (v : Value) (L : List Cm) (x : Cm) (ho : OwC w B v L) (g d : Nat)
    (hx : At 37 w g #[.int .i64 x.k, .int .i64 x.n, .int .i64 x.s, .int .i64 x.e]) (hL : L.length ≤ 1000) (hB : B ≤ w.heap.size) :
    ∃ v' w', (Builtin.append_ #[46, 46] ty #[v, .slice (some ⟨g, 0, none⟩) 1 d]).run Tryd.prog w = .ok v' w' ∧ OwC w' B v' (L ++ [x]) ∧ w.grownBy w' v.ownBlock := by
  obtain ⟨i0, hi, hz0, hz1, hz2⟩ := info_parts infoCm
  obtain ⟨c0, c1, c2, c3⟩ := hx.four
  obtain ⟨v', w', h1, h2, h3, _⟩ := run_append_own (P := Tryd.prog) w B 46 ty 37 i0 _ 4 32 Tryd.underlying46 hi hz0 hz1 hz2 rfl (by decide) v L.length (cellsC L) ho ⟨g, 0, none⟩ 1 d x.cs rfl (fun j u hj => by
    rw [Addr.add_lit, Nat.zero_add]
    match j, hj with
    | 0, hj => cases hj; exact c0
    | 1, hj => cases hj; exact c1
    | 2, hj => cases hj; exact c2
    | 3, hj => cases hj; exact c3) (fun u hu => by
    simp only [Cm.cs, List.mem_cons, List.not_mem_nil, or_false] at hu
    rcases hu with rfl | rfl | rfl | rfl <;> rfl) (by unfold maxLen; omega) (by omega) hB
  refine ⟨v', w', h1, ?_, h3⟩
  unfold OwC
  rw [cellsC_snoc, List.length_append]
  exact h2

theorem At.grown {t : TypeId} {w w' : World} {y : Nat} {cs : Array Value} {o : Option Nat} (h : At t w y cs) (hg : w.grownBy w' o) (hne : some y ≠ o) : At t w' y cs := by
  unfold At
  rw [hg.block y h.lt hne]
  exact h

theorem RdM.grown {w w' : World} {q : Option Addr} {n c : Nat} {ms : List Mb} {o : Option Nat} (h : RdM w q n c ms) (hg : w.grownBy w' o) (hne : ∀ a, q = some a → 0 < n → some a.block ≠ o) : RdM w' q n c ms := by
  refine ⟨h.len, h.cap, h.nil, fun hn => ?_⟩
  obtain ⟨b, off, rfl, hc⟩ := h.cells hn
  refine ⟨b, off, rfl, fun i hi => ?_⟩
  obtain ⟨h1, h2, h3⟩ := hc i hi
  have hb := hg.block b (World.block_lt_of_cell? _ _ h1) (hne _ rfl hn)
  exact ⟨(World.cell?_of_block hb).trans h1, (World.cell?_of_block hb).trans h2, (World.cell?_of_block hb).trans h3⟩

theorem Below.grew {B : Nat} {w w' w2 : World} {o : Option Nat} (h : Below B w w') (hg : w'.grownBy w2 o) (hB : B ≤ w'.heap.size) (ho : ∀ r, o = some r → B ≤ r) : Below B w w2 :=
  ⟨hg.os.trans h.os, hg.tape.trans h.tape, hg.output.trans h.output, Nat.le_trans h.size hg.size, fun k hk => (hg.block k (Nat.lt_of_lt_of_le hk hB) (fun e => by have := ho k e.symm; omega)).trans (h.block k hk)⟩

theorem results_cm {fn : Func} {p u t : Tmp} (h : fn.results = #[.cell p 37, .tmp u, .tmp t]) (tmps : Array Value) (w : World) (g : Nat) (x0 x1 x2 x3 : Value) (hp : tmps.getD p undef = .pointer (some ⟨g, 0, none⟩)) (hg : At 37 w g #[x0, x1, x2, x3]) :
    (results fn tmps).run Tryd.prog w = .ok (.tuple #[.agg #[x0, x1, x2, x3], tmps.getD u undef, tmps.getD t undef]) w := by
  have hp' : tmps[p]?.getD undef = .pointer (some ⟨g, 0, none⟩) := by simpa using hp
  simp [results, h, hp', asAddr, run_loadVar_row w g 37 37 _ (0, 0) _ hg Tryd.underlying37 rfl sizeCm]

theorem results_all {fn : Func} {u p t : Tmp} (h : fn.results = #[.tmp u, .cell p 28, .tmp t]) (tmps : Array Value) (w : World) (g : Nat) (x0 x1 : Value) (hp : tmps.getD p undef = .pointer (some ⟨g, 0, none⟩)) (hg : At 28 w g #[x0, x1]) :
    (results fn tmps).run Tryd.prog w = .ok (.tuple #[tmps.getD u undef, .agg #[x0, x1], tmps.getD t undef]) w := by
  have hp' : tmps[p]?.getD undef = .pointer (some ⟨g, 0, none⟩) := by simpa using hp
  simp [results, h, hp', asAddr, run_loadVar_row w g 28 28 _ (0, 0) _ hg Tryd.underlying28 rfl sizeC]

/-- What Next answers, if all may be. -/
def okV : OC → Value
  | none => .tuple #[.agg #[.int .i64 0, .int .i64 0, .int .i64 0, .int .i64 0], .bool false, .int .i64 0]
  | some (x, _, _) => .tuple #[.agg #[.int .i64 x.k, .int .i64 x.n, .int .i64 x.s, .int .i64 x.e], .bool true, .int .i64 0]

/-- What Next answers. -/
def pnV (al : Nat) (hs vs : List Int) (e : Int) (ms : List Mb) : Value :=
  if chk e ms = false then .tuple #[.agg #[.int .i64 0, .int .i64 0, .int .i64 0, .int .i64 0], .bool false, .int .i64 80] else
  if planC hs vs = false then .tuple #[.agg #[.int .i64 0, .int .i64 0, .int .i64 0, .int .i64 0], .bool false, .int .i64 1] else
  okV (nextR al hs vs e ms)

set_option maxRecDepth 20000 in
set_option maxHeartbeats 4000000 in
theorem pNext_any (e : Int) (p : Option Addr) (n c : Nat) (ms : List Mb) (al : Nat) (h0 h1 h2 h3 h4 h5 v0 v1 v2 : Int) (hv : (v0 ≤ 9223372036854775807 ∧ v1 ≤ 9223372036854775807) ∧ v2 ≤ 9223372036854775807) (w : World) (hal : al < 18446744073709551616) (hr : RdM w p n c ms) (hn : n ≤ 5864062014805) (ht : Tab w) :
    Calls Tryd.prog 14 #[.agg #[.int .i64 e, .slice p n c], .int .u64 (al : Int), .agg #[.int .i64 h0, .int .i64 h1, .int .i64 h2, .int .i64 h3, .int .i64 h4, .int .i64 h5], .agg #[.int .i64 v0, .int .i64 v1, .int .i64 v2]] w fun r w' => r = .returned (pnV al [h0, h1, h2, h3, h4, h5] [v0, v1, v2] e ms) ∧ Below w.heap.size w w' := by
  have hb0 : Below w.heap.size w ((((w.alloc (.cells #[.int .i64 e, .slice p n c] 28)).alloc (.cells #[.int .i64 h0, .int .i64 h1, .int .i64 h2, .int .i64 h3, .int .i64 h4, .int .i64 h5] 23)).alloc (.cells #[.int .i64 v0, .int .i64 v1, .int .i64 v2] 25)).alloc (.cells #[.int .i64 0, .int .i64 0, .int .i64 0, .int .i64 0] 37)) := ((((Below.refl _ _).alloc (Nat.le_refl _) _).alloc (by simp) _).alloc (by simp; omega) _).alloc (by simp; omega) _
  have hC : At 37 ((((w.alloc (.cells #[.int .i64 e, .slice p n c] 28)).alloc (.cells #[.int .i64 h0, .int .i64 h1, .int .i64 h2, .int .i64 h3, .int .i64 h4, .int .i64 h5] 23)).alloc (.cells #[.int .i64 v0, .int .i64 v1, .int .i64 v2] 25)).alloc (.cells #[.int .i64 0, .int .i64 0, .int .i64 0, .int .i64 0] 37)) (w.heap.size + 3) #[.int .i64 0, .int .i64 0, .int .i64 0, .int .i64 0] := At.moved (by simp) (At.new 37 _ _)
  have hr0 := hr.below hb0
  have ht0 := ht.below hb0
  generalize hw : w.heap.size = b at *
  cases hk : chk e ms with
  | false =>
    have HR : Hid (pnV al [h0, h1, h2, h3, h4, h5] [v0, v1, v2] e ms = .tuple #[.agg #[.int .i64 0, .int .i64 0, .int .i64 0, .int .i64 0], .bool false, .int .i64 80]) := by unfold Hid pnV; rw [hk]; rfl
    rw [HR.out]
    have hG := begin_no e p n c ms al h0 h1 h2 h3 h4 h5 v0 v1 v2 _ hr0 hn hk
    clear hk hr hr0 ht ht0 HR
    go_enter Tryd.func14, Tryd.ntmps14
    go_wp2_with fail
    refine hG.mono ?_
    rintro r w1 ⟨rfl, hb1⟩
    have hB1 := hb0.trans (hb1.mono (by have := hb0.size; omega))
    have hba := below_alloc w1 (.cells #[.int .i64 0, .slice none 0 0, .int .u64 0, .int .i64 0, .int .i64 0, .int .i64 0, .int .i64 0, .int .i64 0, .int .i64 0, .int .i64 0, .int .i64 0, .int .i64 0] 72)
    have hC1 := (hC.below hb1).below hba
    have hB2 := hB1.trans (hba.mono (by have := hB1.size; omega))
    obtain ⟨c0, c1, c2, c3⟩ := hC1.four
    obtain ⟨f0, f1, f2, f3⟩ := hC1.free4
    clear hG hC hb0 hb1 hba hB1
    go_wp2_with fail
    exact bodyPost_ret (results_cm (p := 8) (u := 9) (t := 10) rfl _ _ (b + 3) _ _ _ _ rfl (hC1.put4 _ _ _ _)) rfl ⟨rfl, Below.put4 hB2 (by omega) _ _ _ _⟩
  | true =>
    have hG := begin_ok e p n c ms al h0 h1 h2 h3 h4 h5 v0 v1 v2 _ hr0 hn hk
    cases hpc : planC [h0, h1, h2, h3, h4, h5] [v0, v1, v2] with
    | false =>
      have HR : Hid (pnV al [h0, h1, h2, h3, h4, h5] [v0, v1, v2] e ms = .tuple #[.agg #[.int .i64 0, .int .i64 0, .int .i64 0, .int .i64 0], .bool false, .int .i64 1]) := by unfold Hid pnV; rw [hk, hpc]; rfl
      rw [HR.out]
      rw [hpc] at hG
      unfold planV at hG
      simp only [Bool.false_eq_true, if_false] at hG
      clear hk hr hr0 ht ht0 HR hpc
      go_enter Tryd.func14, Tryd.ntmps14
      go_wp2_with fail
      refine hG.mono ?_
      rintro r w1 ⟨rfl, hb1⟩
      have hB1 := hb0.trans (hb1.mono (by have := hb0.size; omega))
      have hba := below_alloc w1 (.cells #[.int .i64 e, .slice p n c, .int .u64 (al : Int), .int .i64 h0, .int .i64 h1, .int .i64 h2, .int .i64 h3, .int .i64 h4, .int .i64 h5, .int .i64 v0, .int .i64 v1, .int .i64 v2] 72)
      have hC1 := (hC.below hb1).below hba
      have hB2 := hB1.trans (hba.mono (by have := hB1.size; omega))
      obtain ⟨c0, c1, c2, c3⟩ := hC1.four
      obtain ⟨f0, f1, f2, f3⟩ := hC1.free4
      clear hG hC hb0 hb1 hba hB1
      go_wp2_with fail
      exact bodyPost_ret (results_cm (p := 8) (u := 9) (t := 10) rfl _ _ (b + 3) _ _ _ _ rfl (hC1.put4 _ _ _ _)) rfl ⟨rfl, Below.put4 hB2 (by omega) _ _ _ _⟩
    | true =>
      obtain ⟨R, HR⟩ : ∃ x, Hid (nextR al [h0, h1, h2, h3, h4, h5] [v0, v1, v2] e ms = x) := ⟨_, rfl⟩
      have HV : Hid (pnV al [h0, h1, h2, h3, h4, h5] [v0, v1, v2] e ms = okV R) := by unfold Hid pnV; rw [hk, hpc, HR.out]; rfl
      rw [HV.out]
      rw [hpc] at hG
      unfold planV at hG
      simp only [if_true] at hG
      have hNx := fun W hx hy => next_any e p n c ms al h0 h1 h2 h3 h4 h5 v0 v1 v2 hv W hal hx hn hy
      rw [HR.out] at hNx
      clear hk hr ht HR hpc HV
      cases R with
      | none =>
        unfold okV
        go_enter Tryd.func14, Tryd.ntmps14
        go_wp2_with fail
        refine hG.mono ?_
        rintro r w1 ⟨rfl, hb1⟩
        have hB1 := hb0.trans (hb1.mono (by have := hb0.size; omega))
        have hba := below_alloc w1 (.cells #[.int .i64 e, .slice p n c, .int .u64 (al : Int), .int .i64 h0, .int .i64 h1, .int .i64 h2, .int .i64 h3, .int .i64 h4, .int .i64 h5, .int .i64 v0, .int .i64 v1, .int .i64 v2] 72)
        have hC1 := (hC.below hb1).below hba
        have hr1 := (hr0.below hb1).below hba
        have ht1 := (ht0.below hb1).below hba
        have hB2 := hB1.trans (hba.mono (by have := hB1.size; omega))
        obtain ⟨a0, a1, a2, ⟨a3, a4, a5, a6, a7, a8⟩, a9, a10, a11⟩ := (At.new 72 w1 #[.int .i64 e, .slice p n c, .int .u64 (al : Int), .int .i64 h0, .int .i64 h1, .int .i64 h2, .int .i64 h3, .int .i64 h4, .int .i64 h5, .int .i64 v0, .int .i64 v1, .int .i64 v2]).state
        clear hG hC hb0 hb1 hba hB1 hr0 ht0
        go_wp2_with fail
        refine (hNx _ hr1 ht1).mono ?_
        rintro r w2 ⟨x2, rfl, hg2, hb2⟩
        obtain rfl := hg2
        have hba := below_alloc w2 (.cells #[.int .i64 0, .int .i64 0, .int .i64 0, .int .i64 0] 37)
        have hbb := below_alloc (w2.alloc (.cells #[.int .i64 0, .int .i64 0, .int .i64 0, .int .i64 0] 37)) (.cells #[.int .i64 0, .slice none 0 0] 28)
        have hC2 := ((hC1.below hb2).below hba).below hbb
        have hN2 := (At.new 37 w2 #[.int .i64 0, .int .i64 0, .int .i64 0, .int .i64 0]).below hbb
        have hB3 := hB2.trans (hb2.mono (by have := hB2.size; omega))
        have hB4 := hB3.trans (hba.mono (by have := hB3.size; omega))
        have hB5 := hB4.trans (hbb.mono (by have := hB4.size; omega))
        obtain ⟨c0, c1, c2, c3⟩ := hC2.four
        obtain ⟨f0, f1, f2, f3⟩ := hC2.free4
        obtain ⟨n0, n1, n2, n3⟩ := hN2.four
        clear hNx hC1 hr1 ht1 hB2 hb2 hba hbb hB3 hB4 hN2 a0 a1 a2 a3 a4 a5 a6 a7 a8 a9 a10 a11
        go_wp2_with fail
        exact bodyPost_ret (results_cm (p := 8) (u := 9) (t := 10) rfl _ _ (b + 3) _ _ _ _ rfl (hC2.put4 _ _ _ _)) rfl ⟨rfl, Below.put4 hB5 (by omega) _ _ _ _⟩
      | some y =>
        obtain ⟨⟨yk, yn, ys, ye⟩, e2, ms2⟩ := y
        unfold okV
        dsimp only
        go_enter Tryd.func14, Tryd.ntmps14
        go_wp2_with fail
        refine hG.mono ?_
        rintro r w1 ⟨rfl, hb1⟩
        have hB1 := hb0.trans (hb1.mono (by have := hb0.size; omega))
        have hba := below_alloc w1 (.cells #[.int .i64 e, .slice p n c, .int .u64 (al : Int), .int .i64 h0, .int .i64 h1, .int .i64 h2, .int .i64 h3, .int .i64 h4, .int .i64 h5, .int .i64 v0, .int .i64 v1, .int .i64 v2] 72)
        have hC1 := (hC.below hb1).below hba
        have hr1 := (hr0.below hb1).below hba
        have ht1 := (ht0.below hb1).below hba
        have hB2 := hB1.trans (hba.mono (by have := hB1.size; omega))
        obtain ⟨a0, a1, a2, ⟨a3, a4, a5, a6, a7, a8⟩, a9, a10, a11⟩ := (At.new 72 w1 #[.int .i64 e, .slice p n c, .int .u64 (al : Int), .int .i64 h0, .int .i64 h1, .int .i64 h2, .int .i64 h3, .int .i64 h4, .int .i64 h5, .int .i64 v0, .int .i64 v1, .int .i64 v2]).state
        clear hG hC hb0 hb1 hba hB1 hr0 ht0
        go_wp2_with fail
        refine (hNx _ hr1 ht1).mono ?_
        rintro r w2 ⟨x2, rfl, hg2, hb2⟩
        obtain ⟨q2, c2', rfl, _, _⟩ := hg2
        dsimp only
        have hba := below_alloc w2 (.cells #[.int .i64 yk, .int .i64 yn, .int .i64 ys, .int .i64 ye] 37)
        have hbb := below_alloc (w2.alloc (.cells #[.int .i64 yk, .int .i64 yn, .int .i64 ys, .int .i64 ye] 37)) (.cells #[.int .i64 e2, .slice q2 ms2.length c2'] 28)
        have hC2 := ((hC1.below hb2).below hba).below hbb
        have hN2 := (At.new 37 w2 #[.int .i64 yk, .int .i64 yn, .int .i64 ys, .int .i64 ye]).below hbb
        have hB3 := hB2.trans (hb2.mono (by have := hB2.size; omega))
        have hB4 := hB3.trans (hba.mono (by have := hB3.size; omega))
        have hB5 := hB4.trans (hbb.mono (by have := hB4.size; omega))
        obtain ⟨c0, c1, c2, c3⟩ := hC2.four
        obtain ⟨f0, f1, f2, f3⟩ := hC2.free4
        obtain ⟨n0, n1, n2, n3⟩ := hN2.four
        clear hNx hC1 hr1 ht1 hB2 hb2 hba hbb hB3 hB4 hN2 a0 a1 a2 a3 a4 a5 a6 a7 a8 a9 a10 a11
        go_wp2_with fail
        exact bodyPost_ret (results_cm (p := 8) (u := 9) (t := 10) rfl _ _ (b + 3) _ _ _ _ rfl (hC2.put4 _ _ _ _)) rfl ⟨rfl, Below.put4 hB5 (by omega) _ _ _ _⟩

end Go.Proofs.YtigojnpjpagfjaaDoor.M
