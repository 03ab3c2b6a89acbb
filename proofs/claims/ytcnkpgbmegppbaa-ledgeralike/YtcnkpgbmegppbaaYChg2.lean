/-
  Own text: what becomes of a chain: contracts of layout's DropSite, behind, Again, Ready.
-/
import Derived.Test.YtcnkpgbmegppbaaYChg
namespace Go.Proofs.Ytcnkpgbmegppbaa.M
open Go.ChangeShapes Go.WideShapes Go.ChangeAt Go.RowKit

/-- A chain in a box b, and the box r of a chain that is answered. -/
structure Gr (W : World) (b r : Nat) (e : Int) (p : Option Addr) (n c : Nat) : Prop where
  a0 : W.cell? ⟨b, 0, none⟩ = some (.int .i64 e)
  a1 : W.cell? ⟨b, 1, none⟩ = some (.slice p n c)
  b0 : W.cell? ⟨r, 0, none⟩ = some (.int .i64 0)
  b1 : W.cell? ⟨r, 1, none⟩ = some (.slice none 0 0)
  f0 : W.frozen? ⟨r, 0, none⟩ = false
  f1 : W.frozen? ⟨r, 1, none⟩ = false
  lt : r < W.heap.size
  br : b < r

theorem Gr.low {W W' : World} {B b r : Nat} {e : Int} {p : Option Addr} {n c : Nat} (h : Gr W b r e p n c) (hb : Below B W W') (hB : r < B) : Gr W' b r e p n c :=
  ⟨(hb.cell (p := ⟨b, 0, none⟩) (Nat.lt_trans h.br hB)).trans h.a0, (hb.cell (p := ⟨b, 1, none⟩) (Nat.lt_trans h.br hB)).trans h.a1, (hb.cell (p := ⟨r, 0, none⟩) hB).trans h.b0, (hb.cell (p := ⟨r, 1, none⟩) hB).trans h.b1, (hb.frozen (p := ⟨r, 0, none⟩) hB).trans h.f0, (hb.frozen (p := ⟨r, 1, none⟩) hB).trans h.f1, Nat.lt_of_lt_of_le h.lt hb.size, h.br⟩

theorem Gr.below {W W' : World} {b r : Nat} {e : Int} {p : Option Addr} {n c : Nat} (h : Gr W b r e p n c) (hb : Below W.heap.size W W') : Gr W' b r e p n c := h.low hb h.lt

theorem Gr.put0 {W : World} {b r : Nat} {e : Int} {p : Option Addr} {n c : Nat} (h : Gr W b r e p n c) (x y : Value) : ((W.setCell ⟨r, 0, none⟩ x).setCell ⟨r, 1, none⟩ y).cell? ⟨r, 0, none⟩ = some x := by
  rw [World.cell?_setCell_other (h := by simp), World.cell?_setCell_same (h := h.b0)]

theorem Gr.put1 {W : World} {b r : Nat} {e : Int} {p : Option Addr} {n c : Nat} (h : Gr W b r e p n c) (x y : Value) : ((W.setCell ⟨r, 0, none⟩ x).setCell ⟨r, 1, none⟩ y).cell? ⟨r, 1, none⟩ = some y := by
  have e1 : (W.setCell ⟨r, 0, none⟩ x).cell? ⟨r, 1, none⟩ = some (.slice none 0 0) := by
    rw [World.cell?_setCell_other (h := by simp)]
    exact h.b1
  rw [World.cell?_setCell_same (h := e1)]

theorem Gr.putB {W : World} {b r : Nat} {w : World} (h : Below b w W) (hr : b ≤ r) (x y : Value) : Below b w ((W.setCell ⟨r, 0, none⟩ x).setCell ⟨r, 1, none⟩ y) := (h.setCell hr x).setCell hr y

theorem Gr.new1 (w : World) (e : Int) (p : Option Addr) (n c : Nat) : Gr ((w.alloc (.cells #[.int .i64 e, .slice p n c] 42)).alloc (.cells #[.int .i64 0, .slice none 0 0] 42)) w.heap.size (w.heap.size + 1) e p n c :=
  ⟨by simp, by simp, by simp, by simp, by simp, by simp, by simp, by simp⟩

theorem rows3 (w : World) (o1 o2 o3 : Obj) : (((w.alloc o1).alloc o2).alloc o3).heap[w.heap.size]? = some o1 ∧ (((w.alloc o1).alloc o2).alloc o3).heap[w.heap.size + 1]? = some o2 ∧ (((w.alloc o1).alloc o2).alloc o3).heap[w.heap.size + 1 + 1]? = some o3 := by
  have s1 : (w.alloc o1).heap.size = w.heap.size + 1 := by simp
  have s2 : ((w.alloc o1).alloc o2).heap.size = w.heap.size + 1 + 1 := by simp
  refine ⟨?_, ?_, ?_⟩
  · rw [Below.heap_alloc _ _ _ (by omega), Below.heap_alloc _ _ _ (by omega)]
    exact heap_alloc_new _ _
  · rw [Below.heap_alloc _ _ _ (by omega), ← s1]
    exact heap_alloc_new _ _
  · rw [← s2]
    exact heap_alloc_new _ _

theorem cell_row {w : World} {b : Nat} {cs : Array Value} {t : TypeId} (h : w.heap[b]? = some (.cells cs t)) {j : Nat} {v : Value} (hj : cs[j]? = some v) : w.cell? ⟨b, j, none⟩ = some v := by
  unfold World.cell?
  dsimp only
  rw [h]
  exact hj

theorem Gr.new2 (w : World) (e : Int) (p : Option Addr) (n c : Nat) (o : Obj) : Gr (((w.alloc (.cells #[.int .i64 e, .slice p n c] 42)).alloc o).alloc (.cells #[.int .i64 0, .slice none 0 0] 42)) w.heap.size (w.heap.size + 1 + 1) e p n c := by
  obtain ⟨r0, _, r2⟩ := rows3 w (.cells #[.int .i64 e, .slice p n c] 42) o (.cells #[.int .i64 0, .slice none 0 0] 42)
  exact ⟨cell_row r0 rfl, cell_row r0 rfl, cell_row r2 rfl, cell_row r2 rfl, frozen_of_row _ _ _ _ _ r2, frozen_of_row _ _ _ _ _ r2, (Array.getElem?_eq_some_iff.1 r2).1, by omega⟩

theorem cfSite : Cf 78 := fun args w => cf_of Try.func78 (by kernel_rfl) (by kernel_rfl) args w
theorem cfBehind : Cf 87 := fun args w => cf_of Try.func87 (by kernel_rfl) (by kernel_rfl) args w

set_option maxRecDepth 20000 in
theorem asksSite (w : World) (B : Nat) (site : Int) (h : w.cell? ⟨B, 0, none⟩ = some (.int .i64 site)) : Asks 78 #[.pointer (some ⟨B, 0, none⟩)] w (fun m => m.s == site) := fun W m hb => by
  have hc := (hb.cell (p := ⟨B, 0, none⟩) (World.block_lt_of_cell? _ _ h)).trans h
  have hba : Below W.heap.size W (W.alloc (.cells #[.int .i64 m.n, .int .i64 m.s, .bool m.f] 48)) := (Below.refl _ _).alloc (Nat.le_refl _) _
  have hcb := (hba.cell (p := ⟨B, 0, none⟩) (World.block_lt_of_cell? _ _ hc)).trans hc
  obtain ⟨n, s, f⟩ := m
  dsimp only at hba hcb ⊢
  clear h hb
  go_enter Try.func78, Try.ntmps78
  go_wp2
  go_ret
  exact ⟨rfl, hba⟩

set_option maxRecDepth 20000 in
theorem asksBehind (w : World) (B : Nat) (site : Int) (h : w.cell? ⟨B, 0, none⟩ = some (.int .i64 site)) : Asks 87 #[.pointer (some ⟨B, 0, none⟩)] w (fun m => decide (site < m.s)) := fun W m hb => by
  have hc := (hb.cell (p := ⟨B, 0, none⟩) (World.block_lt_of_cell? _ _ h)).trans h
  have hba : Below W.heap.size W (W.alloc (.cells #[.int .i64 m.n, .int .i64 m.s, .bool m.f] 48)) := (Below.refl _ _).alloc (Nat.le_refl _) _
  have hcb := (hba.cell (p := ⟨B, 0, none⟩) (World.block_lt_of_cell? _ _ hc)).trans hc
  obtain ⟨n, s, f⟩ := m
  dsimp only at hba hcb ⊢
  clear h hb
  go_enter Try.func87, Try.ntmps87
  go_wp2
  go_ret
  exact ⟨rfl, hba⟩

set_option maxRecDepth 20000 in
set_option maxHeartbeats 1000000 in
theorem DropSite_any (e : Int) (p : Option Addr) (n c : Nat) (ms : List Mb) (site : Int) (w : World) (hr : RdM w p n c ms) (hn : n ≤ 5864062014805) :
    Calls Try.prog 71 #[.agg #[.int .i64 e, .slice p n c], .int .i64 site] w fun r w' => ∃ v, r = .returned v ∧ Told w.heap.size w' v (cutR (fun m => m.s == site) e ms) ∧ Below w.heap.size w w' := by
  have hF := Gr.new2 w e p n c (.cells #[.int .i64 site] 3)
  have hb0 : Below w.heap.size w (((w.alloc (.cells #[.int .i64 e, .slice p n c] 42)).alloc (.cells #[.int .i64 site] 3)).alloc (.cells #[.int .i64 0, .slice none 0 0] 42)) := (((Below.refl _ _).alloc (Nat.le_refl _) _).alloc (by simp) _).alloc (by simp; omega) _
  have hc : (((w.alloc (.cells #[.int .i64 e, .slice p n c] 42)).alloc (.cells #[.int .i64 site] 3)).alloc (.cells #[.int .i64 0, .slice none 0 0] 42)).cell? ⟨w.heap.size + 1, 0, none⟩ = some (.int .i64 site) := cell_row (rows3 w _ _ _).2.1 rfl
  have hr0 := hr.below hb0
  have hW := without_any _ cfSite _ _ e p n c ms _ hr0 hn (asksSite _ _ _ hc)
  generalize hR : cutR (fun m => m.s == site) e ms = R at *
  clear hR
  generalize hw : w.heap.size = b at *
  go_enter Try.func71, Try.ntmps71
  go_wp2_with fail
  generalize (((w.alloc (.cells #[.int .i64 e, .slice p n c] 42)).alloc (.cells #[.int .i64 site] 3)).alloc (.cells #[.int .i64 0, .slice none 0 0] 42)) = w0 at *
  refine hW.mono ?_
  rintro r w1 ⟨v, rfl, ht, hb1⟩
  have hlt := hF.lt
  have hG := hF.below hb1
  have hB1 := hb0.trans (hb1.mono (by omega))
  have hk := hG
  obtain ⟨a0, a1, b0, b1, f0, f1, lt, br⟩ := hG
  cases R with
  | error k =>
    obtain rfl := ht
    go_wp2_with fail
    exact bodyPost_ret (results_chain (p := 4) (u := 5) rfl _ _ (b + 1 + 1) _ _ rfl (hk.put0 _ _) (hk.put1 _ _)) rfl ⟨_, rfl, rfl, Gr.putB hB1 (by omega) _ _⟩
  | ok em =>
    obtain ⟨e2, ms2⟩ := em
    obtain ⟨q3, c3, rfl, hq3, hr4⟩ := ht
    go_wp2_with fail
    exact bodyPost_ret (results_chain (p := 4) (u := 5) rfl _ _ (b + 1 + 1) _ _ rfl (hk.put0 _ _) (hk.put1 _ _)) rfl ⟨_, rfl, ⟨q3, c3, rfl, (fun a ha h0 => Nat.le_trans (by omega) (hq3 a ha h0)), hr4.put _ _ (fun a ha h0 => by have := hq3 a ha h0; omega)⟩, Gr.putB hB1 (by omega) _ _⟩

/-- The place behind the last one whose site is not greater. -/
def behM (ms : List Mb) (site : Int) : Int := if ixM (fun m => decide (site < m.s)) 0 ms = -1 then (ms.length : Int) else ixM (fun m => decide (site < m.s)) 0 ms

theorem behM_bounds (ms : List Mb) (site : Int) : 0 ≤ behM ms site ∧ behM ms site ≤ ms.length := by
  unfold behM
  have := ixM_bounds (fun m => decide (site < m.s)) ms 0
  split <;> omega

set_option maxRecDepth 20000 in
theorem behind_any (e : Int) (p : Option Addr) (n c : Nat) (ms : List Mb) (site : Int) (w : World) (hr : RdM w p n c ms) (hn : n ≤ 5864062014805) :
    Calls Try.prog 79 #[.agg #[.int .i64 e, .slice p n c], .int .i64 site] w fun r w' => r = .returned (.int .i64 (behM ms site)) ∧ Below w.heap.size w w' := by
  have hb0 : Below w.heap.size w ((w.alloc (.cells #[.int .i64 e, .slice p n c] 42)).alloc (.cells #[.int .i64 site] 3)) := ((Below.refl _ _).alloc (Nat.le_refl _) _).alloc (by simp) _
  have hc : ((w.alloc (.cells #[.int .i64 e, .slice p n c] 42)).alloc (.cells #[.int .i64 site] 3)).cell? ⟨w.heap.size + 1, 0, none⟩ = some (.int .i64 site) := by simp
  have hd : ((w.alloc (.cells #[.int .i64 e, .slice p n c] 42)).alloc (.cells #[.int .i64 site] 3)).cell? ⟨w.heap.size, 1, none⟩ = some (.slice p n c) := by simp
  have hI := indexF_any _ cfBehind _ _ p n c ms _ (hr.below hb0) hn (asksBehind _ _ _ hc)
  have HN : Hid (behM ms site = if ixM (fun m => decide (site < m.s)) 0 ms = -1 then (ms.length : Int) else ixM (fun m => decide (site < m.s)) 0 ms) := rfl
  have hl := hr.len
  generalize ixM (fun m => decide (site < m.s)) 0 ms = z at *
  go_enter Try.func79, Try.ntmps79
  go_wp2_with fail
  refine hI.mono ?_
  rintro r w1 ⟨rfl, hb1⟩
  have hbb := hb0.trans (hb1.mono hb0.size)
  replace hd := (hb1.cell (p := ⟨w.heap.size, 1, none⟩) (World.block_lt_of_cell? _ _ hd)).trans hd
  by_cases hz : z = -1
  · have HN2 : Hid (behM ms site = (n : Int)) := by unfold Hid; rw [HN.out, if_pos hz, hl]
    subst hz
    clear HN hI
    go_wp2_with fail
    go_ret
    exact ⟨ret_int HN2.out.symm, hbb⟩
  · have HN2 : Hid (behM ms site = z) := by unfold Hid; rw [HN.out, if_neg hz]
    have hz2 : (z == -1) = false := by simp [hz]
    clear HN hI
    go_wp2_with fail
    go_ret
    exact ⟨ret_int HN2.out.symm, hbb⟩

/-- The same chain in the next epoch. -/
def againR (e : Int) (ms : List Mb) (node : Int) : CR :=
  if chk e ms = false then .error 80 else if hasN (thN (fun _ => true) 0 ms) node = false then .error 81 else if 1099511627776 ≤ e then .error 5 else .ok (e + 1, ms)

theorem Copy.tell {w : World} {B n : Nat} {ms : List Mb} {v : Value} (h : Copy w B n ms v) (hl : ms.length = n) : ∃ q c, v = .slice q n c ∧ (∀ a, q = some a → 0 < n → B ≤ a.block) ∧ RdM w q n c ms := by
  rcases h with ⟨rfl, q, rfl⟩ | ⟨h0, ho⟩
  · exact ⟨q, 0, rfl, fun _ _ h => absurd h (Nat.lt_irrefl _), hl, Nat.le_refl _, fun _ => rfl, fun h => absurd h (Nat.lt_irrefl _)⟩
  · obtain ⟨g, cap, rfl, hg, hr⟩ := Row.of_owns ho hl h0
    exact ⟨_, _, rfl, fun a ha _ => by cases ha; exact hg, hl ▸ hr.rd⟩

set_option maxRecDepth 20000 in
set_option maxHeartbeats 2000000 in
theorem Again_any (e : Int) (p : Option Addr) (n c : Nat) (ms : List Mb) (node : Int) (w : World) (hr : RdM w p n c ms) (hn : n ≤ 5864062014805) :
    Calls Try.prog 73 #[.agg #[.int .i64 e, .slice p n c], .int .i64 node] w fun r w' => ∃ v, r = .returned v ∧ Told w.heap.size w' v (againR e ms node) ∧ Below w.heap.size w w' := by
  have hF := Gr.new1 w e p n c
  have hb0 : Below w.heap.size w ((w.alloc (.cells #[.int .i64 e, .slice p n c] 42)).alloc (.cells #[.int .i64 0, .slice none 0 0] 42)) := ((Below.refl _ _).alloc (Nat.le_refl _) _).alloc (by simp) _
  have hl := hr.len
  have hr0 := hr.below hb0
  have hC := Check_any e p n c ms _ hr0 hn
  unfold chkV at hC
  generalize hw : w.heap.size = b at *
  go_enter Try.func73, Try.ntmps73
  go_wp2_with fail
  generalize ((w.alloc (.cells #[.int .i64 e, .slice p n c] 42)).alloc (.cells #[.int .i64 0, .slice none 0 0] 42)) = w0 at *
  refine hC.mono ?_
  rintro r w1 ⟨rfl, hb1⟩
  have hlt0 := hF.lt
  have hF1 := hF.below hb1
  have hB1 := hb0.trans (hb1.mono (by omega))
  have hr1 := hr0.below hb1
  clear hC
  cases hk : chk e ms with
  | false =>
    have HR : Hid (againR e ms node = .error 80) := by unfold Hid againR; rw [hk]; rfl
    have e0 := hF1.put0 (.int .i64 0) (.slice none 0 0)
    have e1 := hF1.put1 (.int .i64 0) (.slice none 0 0)
    have hbb := Gr.putB hB1 (Nat.le_succ b) (.int .i64 0) (.slice none 0 0)
    obtain ⟨a0, a1, b0, b1, f0, f1, lt, br⟩ := hF1
    clear hF hr hr0 hb0 hb1 hk hr1
    simp only [Bool.false_eq_true, if_false]
    go_wp2_with fail
    exact bodyPost_ret (results_chain (p := 4) (u := 5) rfl _ _ (b + 1) _ _ rfl e0 e1) rfl ⟨_, rfl, by rw [HR.out]; rfl, hbb⟩
  | true =>
    obtain ⟨he1, he2, hn0, hn6⟩ := chk_parts hk
    have hN := Nodes_any e p n c ms w1 hr1 hn
    have hxl := thN_lt (fun _ => true) ms 0 (by decide)
    have HR : Hid (againR e ms node = if hasN (thN (fun _ => true) 0 ms) node = false then .error 81 else if 1099511627776 ≤ e then .error 5 else .ok (e + 1, ms)) := by unfold Hid againR; rw [hk]; rfl
    generalize thN (fun _ => true) 0 ms = X at *
    have hH := fun W => has_any X node W hxl
    have hk1 := hF1
    obtain ⟨a0, a1, b0, b1, f0, f1, lt, br⟩ := hF1
    clear hF hr hr0 hb0 hb1 hk
    simp only [if_true]
    go_wp2_with fail
    refine hN.mono ?_
    rintro r w2 ⟨rfl, hb2⟩
    have hk2 := hk1.below hb2
    have hB2 := hB1.trans (hb2.mono (by omega))
    have hr2 := hr1.below hb2
    clear a0 a1 b0 b1 f0 f1 hN
    obtain ⟨a0, a1, b0, b1, f0, f1, lt2, br2⟩ := hk2
    generalize hasN X node = h1 at *
    go_wp2_with fail
    refine (hH _).mono ?_
    rintro r w3 ⟨rfl, hw3⟩
    subst hw3
    cases h1 with
    | false =>
      have HR2 : Hid (againR e ms node = .error 81) := HR.out
      have hk2 := hk1.below hb2
      have e0 := hk2.put0 (.int .i64 0) (.slice none 0 0)
      have e1 := hk2.put1 (.int .i64 0) (.slice none 0 0)
      have hbb := Gr.putB hB2 (Nat.le_succ b) (.int .i64 0) (.slice none 0 0)
      clear HR
      go_wp2_with fail
      exact bodyPost_ret (results_chain (p := 4) (u := 5) rfl _ _ (b + 1) _ _ rfl e0 e1) rfl ⟨_, rfl, by rw [HR2.out]; rfl, hbb⟩
    | true =>
      have HR2 : Hid (againR e ms node = if 1099511627776 ≤ e then .error 5 else .ok (e + 1, ms)) := HR.out
      have hL := last_any e p n c w3
      clear HR
      go_wp2_with fail
      refine hL.mono ?_
      rintro r w4 ⟨rfl, hb4⟩
      have hk4 := (hk1.below hb2).below hb4
      have hB4 := hB2.trans (hb4.mono (by omega))
      have hr4 := hr2.below hb4
      clear a0 a1 b0 b1 f0 f1 hL
      have hk5 := hk4
      obtain ⟨a0, a1, b0, b1, f0, f1, lt4, br4⟩ := hk5
      by_cases h40 : 1099511627776 ≤ e
      · have HR3 : Hid (againR e ms node = .error 5) := by unfold Hid; rw [HR2.out, if_pos h40]
        have e0 := hk4.put0 (.int .i64 0) (.slice none 0 0)
        have e1 := hk4.put1 (.int .i64 0) (.slice none 0 0)
        have hbb := Gr.putB hB4 (Nat.le_succ b) (.int .i64 0) (.slice none 0 0)
        clear HR2
        go_wp2_with fail
        exact bodyPost_ret (results_chain (p := 4) (u := 5) rfl _ _ (b + 1) _ _ rfl e0 e1) rfl ⟨_, rfl, by rw [HR3.out]; rfl, hbb⟩
      · have HR3 : Hid (againR e ms node = .ok (e + 1, ms)) := by unfold Hid; rw [HR2.out, if_neg h40]
        have hd40 : decide (1099511627776 ≤ e) = false := decide_eq_false h40
        have hCl := fun W (hW : Below w4.heap.size w4 W) => cloneM_any p n c ms W (hr4.below hW) hn
        have hFo := fun q k d W => follow_any e p n c q k d W he1 (by omega)
        clear HR2 h40
        go_wp2_with fail
        go_region_with (first
          | (go_at_call 64; (refine (hCl _ (by first | exact (Below.refl _ _).drew | exact Below.refl _ _)).mono ?_; rintro r w5 ⟨v5, rfl, hcp, hb5q⟩; have hb5 : Below w4.heap.size w4 w5 := ⟨hb5q.os, hb5q.tape, hb5q.output, hb5q.size, hb5q.block⟩; have hcp' : Copy w5 w4.heap.size n ms v5 := hcp; obtain ⟨q5, c5, rfl, hq5, hr5⟩ := hcp'.tell hl; obtain ⟨a0, a1, b0, b1, f0, f1, lt5, br5⟩ := hk4.below hb5))
          | (go_at_call 81; refine (hFo _ _ _ _).mono ?_; rintro r w6 ⟨rfl, hb6q⟩; have hb6 : Below w5.heap.size w5 w6 := ⟨hb6q.os, hb6q.tape, hb6q.output, hb6q.size, hb6q.block⟩; obtain ⟨a0, a1, b0, b1, f0, f1, lt6, br6⟩ := (hk4.below hb5).below hb6))
        all_goals go_wp2_with fail
        all_goals exact bodyPost_ret (results_chain (p := 4) (u := 5) rfl _ _ (b + 1) _ _ rfl (((hk4.below hb5).below hb6).put0 _ _) (((hk4.below hb5).below hb6).put1 _ _)) rfl ⟨_, rfl, by
          rw [HR3.out]
          refine ⟨q5, c5, by rw [hl]; rfl, (fun a ha h0 => Nat.le_trans (by omega) (hq5 a ha (by omega))), ?_⟩
          rw [hl]
          exact (hr5.below hb6).put _ _ (fun a ha h0 => by have := hq5 a ha h0; omega), Gr.putB (hB4.trans ((hb5.trans (hb6.mono hb5.size)).mono (by omega))) (Nat.le_succ b) _ _⟩

theorem Row.far {w : World} {g N b j : Nat} {L : List Mb} (h : Row w g N L) (hb : b ≠ g) (v : Value) : Row (w.setCell ⟨b, j, none⟩ v) g N L := by
  have e : ∀ i, (w.setCell ⟨b, j, none⟩ v).cell? ⟨g, i, none⟩ = w.cell? ⟨g, i, none⟩ := fun i => World.cell?_setCell_other _ _ _ _ (fun h => hb (congrArg Addr.block h))
  exact ⟨by simpa using h.lt, h.le, fun i hi => ⟨by rw [e]; exact (h.there i hi).1, by rw [World.frozen?_setCell]; exact (h.there i hi).2⟩, fun i hi => by rw [e]; exact h.cells i hi⟩

theorem Row.flag {w : World} {g N k : Nat} {L : List Mb} (h : Row w g N L) (hk : k < L.length) {mn ms : Int} {mf : Bool} (hm : L.getD k .z0 = ⟨mn, ms, mf⟩) (f : Bool) : Row (w.setCell ⟨g, k * 3 + 2, none⟩ (.bool f)) g N (L.set k ⟨mn, ms, f⟩) := by
  have h2 := (h.at hk).2.2
  refine ⟨by simpa using h.lt, by rw [List.length_set]; exact h.le, fun i hi => ⟨?_, by rw [World.frozen?_setCell]; exact (h.there i hi).2⟩, fun i hi => ?_⟩
  · obtain ⟨v, hv⟩ := Option.isSome_iff_exists.1 (h.there i hi).1
    obtain ⟨v', hv'⟩ := cell?_setCell_some (p := ⟨g, k * 3 + 2, none⟩) (x := .bool f) hv
    rw [hv']; rfl
  · rw [List.length_set] at hi
    by_cases he : i = k * 3 + 2
    · subst he
      rw [World.cell?_setCell_same (h := h2), cellAt_2, getD_set hk, if_pos rfl]
    · rw [World.cell?_setCell_other (h := fun hx => he (congrArg Addr.off hx).symm), h.cells i hi]
      have e3 : i = i / 3 * 3 + i % 3 := by omega
      have hr : i % 3 < 3 := Nat.mod_lt _ (by decide)
      by_cases hik : i / 3 = k
      · have hg : (L.set k ⟨mn, ms, f⟩).getD k .z0 = ⟨mn, ms, f⟩ := by rw [getD_set hk, if_pos rfl]
        rw [e3, hik]
        have hr2 : i % 3 < 2 := by omega
        generalize i % 3 = r at hr2
        match r, hr2 with
        | 0, _ => rw [Nat.add_zero, cellAt_0, cellAt_0, hm, hg]
        | 1, _ => rw [cellAt_1, cellAt_1, hm, hg]
      · rw [e3]
        exact congrArg some (cellAt_shift (by rw [getD_set hk, if_neg hik]) hr)

/-- The same chain, in which a node has all. -/
def readyR (e : Int) (ms : List Mb) (node : Int) : CR :=
  if chk e ms = false then .error 80 else
  if plc e ms node = -1 ∨ (ms.getD (plc e ms node).toNat .z0).f = false then .error 81 else
  .ok (e, ms.set (plc e ms node).toNat { ms.getD (plc e ms node).toNat .z0 with f := false })

set_option maxRecDepth 20000 in
set_option maxHeartbeats 2000000 in
theorem Ready_any (e : Int) (p : Option Addr) (n c : Nat) (ms : List Mb) (node : Int) (w : World) (hr : RdM w p n c ms) (hn : n ≤ 5864062014805) :
    Calls Try.prog 74 #[.agg #[.int .i64 e, .slice p n c], .int .i64 node] w fun r w' => ∃ v, r = .returned v ∧ Told w.heap.size w' v (readyR e ms node) ∧ Below w.heap.size w w' := by
  have hF := Gr.new1 w e p n c
  have hb0 : Below w.heap.size w ((w.alloc (.cells #[.int .i64 e, .slice p n c] 42)).alloc (.cells #[.int .i64 0, .slice none 0 0] 42)) := ((Below.refl _ _).alloc (Nat.le_refl _) _).alloc (by simp) _
  have hz0 : ((w.alloc (.cells #[.int .i64 e, .slice p n c] 42)).alloc (.cells #[.int .i64 0, .slice none 0 0] 42)).frozen? ⟨w.heap.size, 1, none⟩ = false := by simp
  have hl := hr.len
  have hr0 := hr.below hb0
  have hC := Check_any e p n c ms _ hr0 hn
  unfold chkV at hC
  generalize hw : w.heap.size = b at *
  go_enter Try.func74, Try.ntmps74
  go_wp2_with fail
  generalize ((w.alloc (.cells #[.int .i64 e, .slice p n c] 42)).alloc (.cells #[.int .i64 0, .slice none 0 0] 42)) = w0 at *
  refine hC.mono ?_
  rintro r w1 ⟨rfl, hb1⟩
  have hlt0 := hF.lt
  have hF1 := hF.below hb1
  have hB1 := hb0.trans (hb1.mono (by omega))
  have hr1 := hr0.below hb1
  have hz1 : w1.frozen? ⟨b, 1, none⟩ = false := (hb1.frozen (p := ⟨b, 1, none⟩) (by show b < _; omega)).trans hz0
  clear hC hz0
  cases hk : chk e ms with
  | false =>
    have HR : Hid (readyR e ms node = .error 80) := by unfold Hid readyR; rw [hk]; rfl
    have e0 := hF1.put0 (.int .i64 0) (.slice none 0 0)
    have e1 := hF1.put1 (.int .i64 0) (.slice none 0 0)
    have hbb := Gr.putB hB1 (Nat.le_succ b) (.int .i64 0) (.slice none 0 0)
    obtain ⟨a0, a1, b0, b1, f0, f1, lt, br⟩ := hF1
    clear hF hr hr0 hb0 hb1 hk hr1
    simp only [Bool.false_eq_true, if_false]
    go_wp2_with fail
    exact bodyPost_ret (results_chain (p := 4) (u := 5) rfl _ _ (b + 1) _ _ rfl e0 e1) rfl ⟨_, rfl, by rw [HR.out]; rfl, hbb⟩
  | true =>
    have hP := Place_any e p n c ms node w1 hr1 hn
    have hbd := plc_bounds e ms node
    have HR : Hid (readyR e ms node = if plc e ms node = -1 ∨ (ms.getD (plc e ms node).toNat .z0).f = false then .error 81 else .ok (e, ms.set (plc e ms node).toNat { ms.getD (plc e ms node).toNat .z0 with f := false })) := by unfold Hid readyR; rw [hk]; rfl
    generalize plc e ms node = z at *
    have hk1 := hF1
    obtain ⟨a0, a1, b0, b1, f0, f1, lt, br⟩ := hF1
    clear hF hr hr0 hb0 hb1 hk
    simp only [if_true]
    go_wp2_with fail
    refine hP.mono ?_
    rintro r w2 ⟨rfl, hb2⟩
    have hk2 := hk1.below hb2
    have hB2 := hB1.trans (hb2.mono (by omega))
    have hr2 := hr1.below hb2
    have hz2 : w2.frozen? ⟨b, 1, none⟩ = false := (hb2.frozen (p := ⟨b, 1, none⟩) (by show b < _; omega)).trans hz1
    clear a0 a1 b0 b1 f0 f1 hP hr1 hk1 hz1
    have hk3 := hk2
    obtain ⟨a0, a1, b0, b1, f0, f1, lt2, br2⟩ := hk2
    by_cases hz : z = -1
    · have HR2 : Hid (readyR e ms node = .error 81) := by unfold Hid; rw [HR.out, if_pos (Or.inl hz)]
      have e0 := hk3.put0 (.int .i64 0) (.slice none 0 0)
      have e1 := hk3.put1 (.int .i64 0) (.slice none 0 0)
      have hbb := Gr.putB hB2 (Nat.le_succ b) (.int .i64 0) (.slice none 0 0)
      subst hz
      clear HR
      go_wp2_with fail
      exact bodyPost_ret (results_chain (p := 4) (u := 5) rfl _ _ (b + 1) _ _ rfl e0 e1) rfl ⟨_, rfl, by rw [HR2.out]; rfl, hbb⟩
    · obtain ⟨k, rfl⟩ := Int.eq_ofNat_of_zero_le (show 0 ≤ z by omega)
      have hkn : k < n := by omega
      have hzz : ((k : Int) == -1) = false := by simp
      obtain ⟨gb, go, rfl, hc⟩ := hr2.cells (by omega)
      obtain ⟨x1, x2, x3⟩ := hc k hkn
      have hki : (k : Int) < (n : Int) := by omega
      have hWh := fun W => whole_any (ms.getD k .z0) W
      have HR2 : Hid (readyR e ms node = if (ms.getD k .z0).f = false then .error 81 else .ok (e, ms.set k { ms.getD k .z0 with f := false })) := by
        unfold Hid
        rw [HR.out, Int.toNat_natCast]
        by_cases hf : (ms.getD k .z0).f = false
        · rw [if_pos (Or.inr hf), if_pos hf]
        · rw [if_neg (fun h => h.elim hz hf), if_neg hf]
      clear HR hz hbd hc
      generalize hm : ms.getD k .z0 = m at *
      obtain ⟨mn, msi, mf⟩ := m
      dsimp only at x1 x2 x3 hWh HR2
      go_wp2_with fail
      refine (hWh _).mono ?_
      rintro r w3 ⟨rfl, hb3⟩
      have hk4 := hk3.below hb3
      have hB3 := hB2.trans (hb3.mono (by omega))
      have hr3 := hr2.below hb3
      have hz3 : w3.frozen? ⟨b, 1, none⟩ = false := (hb3.frozen (p := ⟨b, 1, none⟩) (by show b < _; omega)).trans hz2
      clear a0 a1 b0 b1 f0 f1 hWh x1 x2 x3 hz2
      have hk5 := hk4
      obtain ⟨a0, a1, b0, b1, f0, f1, lt3, br3⟩ := hk4
      cases mf with
      | false =>
        have HR3 : Hid (readyR e ms node = .error 81) := HR2.out
        have e0 := hk5.put0 (.int .i64 0) (.slice none 0 0)
        have e1 := hk5.put1 (.int .i64 0) (.slice none 0 0)
        have hbb := Gr.putB hB3 (Nat.le_succ b) (.int .i64 0) (.slice none 0 0)
        clear HR2
        go_wp2_with fail
        exact bodyPost_ret (results_chain (p := 4) (u := 5) rfl _ _ (b + 1) _ _ rfl e0 e1) rfl ⟨_, rfl, by rw [HR3.out]; rfl, hbb⟩
      | true =>
        have HR3 : Hid (readyR e ms node = .ok (e, ms.set k ⟨mn, msi, false⟩)) := HR2.out
        have hCl := cloneM_any _ n c ms w3 hr3 hn
        clear HR2
        go_wp2_with fail
        refine hCl.mono ?_
        rintro r w4 ⟨v4, rfl, hcp, hb4⟩
        rcases hcp with ⟨h0, _⟩ | ⟨h0, ho⟩
        · omega
        · obtain ⟨g, N, rfl, hg, hR4⟩ := Row.of_owns ho hl h0
          have hk6 := hk5.below hb4
          have hB4 := hB3.trans (hb4.mono (by omega))
          have hz4 : w4.frozen? ⟨b, 1, none⟩ = false := (hb4.frozen (p := ⟨b, 1, none⟩) (by show b < _; omega)).trans hz3
          clear a0 a1 b0 b1 f0 f1 hCl ho
          have hk7 := hk6
          obtain ⟨a0, a1, b0, b1, f0, f1, lt4, br4⟩ := hk6
          obtain ⟨y1, y2, y3⟩ := hR4.at (i := k) (by omega)
          have fy : w4.frozen? ⟨g, k * 3 + 2, none⟩ = false := (hR4.thereAt (i := k) (by have := hR4.le; omega) 2 (by decide)).2
          rw [hm] at y1 y2 y3
          have hgb : b + 1 < g := Nat.lt_of_lt_of_le lt3 hg
          have hNk : n ≤ N := by have := hR4.le; omega
          have q1 : (w4.setCell ⟨b, 1, none⟩ (.slice (some ⟨g, 0, none⟩) n N)).cell? ⟨b, 1, none⟩ = some (.slice (some ⟨g, 0, none⟩) n N) := by rw [World.cell?_setCell_same (h := a1)]
          have q0 : (w4.setCell ⟨b, 1, none⟩ (.slice (some ⟨g, 0, none⟩) n N)).cell? ⟨b, 0, none⟩ = some (.int .i64 e) := by rw [World.cell?_setCell_other (h := by simp)]; exact a0
          have q3 : (w4.setCell ⟨b, 1, none⟩ (.slice (some ⟨g, 0, none⟩) n N)).cell? ⟨g, k * 3 + 2, none⟩ = some (.bool true) := by rw [World.cell?_setCell_other (h := fun h => absurd (congrArg Addr.block h) (by show ¬ b = g; omega))]; exact y3
          have hRf := (hR4.far (b := b) (j := 1) (by omega) (.slice (some ⟨g, 0, none⟩) n N)).flag (k := k) (by omega) hm false
          have hB5 : Below b w ((w4.setCell ⟨b, 1, none⟩ (.slice (some ⟨g, 0, none⟩) n N)).setCell ⟨g, k * 3 + 2, none⟩ (.bool false)) := (hB4.setCell (Nat.le_refl b) _).setCell (by show b ≤ g; omega) _
          have z0 : ((w4.setCell ⟨b, 1, none⟩ (.slice (some ⟨g, 0, none⟩) n N)).setCell ⟨g, k * 3 + 2, none⟩ (.bool false)).cell? ⟨b + 1, 0, none⟩ = some (.int .i64 0) := by
            rw [World.cell?_setCell_other (h := fun h => absurd (congrArg Addr.block h) (by show ¬ g = b + 1; omega)), World.cell?_setCell_other (h := fun h => absurd (congrArg Addr.block h) (by show ¬ b = b + 1; omega))]; exact b0
          have z1 : ((w4.setCell ⟨b, 1, none⟩ (.slice (some ⟨g, 0, none⟩) n N)).setCell ⟨g, k * 3 + 2, none⟩ (.bool false)).cell? ⟨b + 1, 1, none⟩ = some (.slice none 0 0) := by
            rw [World.cell?_setCell_other (h := fun h => absurd (congrArg Addr.block h) (by show ¬ g = b + 1; omega)), World.cell?_setCell_other (h := fun h => absurd (congrArg Addr.block h) (by show ¬ b = b + 1; omega))]; exact b1
          go_wp2_with fail
          generalize ((w4.setCell ⟨b, 1, none⟩ (.slice (some ⟨g, 0, none⟩) n N)).setCell ⟨g, k * 3 + 2, none⟩ (.bool false)) = W5 at *
          have y0 : ((W5.setCell ⟨b + 1, 0, none⟩ (.int .i64 e)).setCell ⟨b + 1, 1, none⟩ (.slice (some ⟨g, 0, none⟩) n N)).cell? ⟨b + 1, 0, none⟩ = some (.int .i64 e) := by
            rw [World.cell?_setCell_other (h := by simp), World.cell?_setCell_same (h := z0)]
          have y1' : ((W5.setCell ⟨b + 1, 0, none⟩ (.int .i64 e)).setCell ⟨b + 1, 1, none⟩ (.slice (some ⟨g, 0, none⟩) n N)).cell? ⟨b + 1, 1, none⟩ = some (.slice (some ⟨g, 0, none⟩) n N) := by
            have e1 : (W5.setCell ⟨b + 1, 0, none⟩ (.int .i64 e)).cell? ⟨b + 1, 1, none⟩ = some (.slice none 0 0) := by
              rw [World.cell?_setCell_other (h := by simp)]
              exact z1
            rw [World.cell?_setCell_same (h := e1)]
          have hrd := hRf.rd
          rw [List.length_set, hl] at hrd
          exact bodyPost_ret (results_chain (p := 4) (u := 5) rfl _ _ (b + 1) _ _ rfl y0 y1') rfl ⟨_, rfl, by
            rw [HR3.out]
            refine ⟨some ⟨g, 0, none⟩, N, by rw [List.length_set, hl]; rfl, (fun a ha _ => by cases ha; show b ≤ g; omega), ?_⟩
            rw [List.length_set, hl]
            exact hrd.put _ _ (fun a ha _ => by cases ha; show g ≠ b + 1; omega), Gr.putB hB5 (Nat.le_succ b) _ _⟩

end Go.Proofs.Ytcnkpgbmegppbaa.M
