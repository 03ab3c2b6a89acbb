/-
  Own text: what becomes of a chain: the contract of layout's Join.
-/
import Derived.Test.YtcnkpgbmegppbaaYChg2
import Derived.Test.YtcnkpgbmegppbaaDet2
namespace Go.Proofs.Ytcnkpgbmegppbaa.M
open Go.ChangeShapes Go.WideShapes Go.ChangeAt Go.RowKit

theorem wp_enterE {P : Program} {op : Oper} {a : Act} {w : World} {K : Act → World → Prop} {Q : Exit → Act → World → Prop} (f : FuncId) (args : Array Value) (he : (execOp a.eval op).run P w = .ok (.enter f args) w) (R : Value → World → Prop) (hc : Calls P f args w fun e w' => ∃ v, e = .returned v ∧ R v w') (h : ∀ v w', R v w' → K (a.put op.dst v) w') : op.wp P a w K Q := by
  unfold Oper.wp
  rw [he]
  refine Calls.mono hc ?_
  rintro e w' ⟨v, rfl, hR⟩
  exact h v w' hR

theorem wp_value {P : Program} {op : Oper} {a : Act} {w : World} {K : Act → World → Prop} {Q : Exit → Act → World → Prop} (v : Value) (w' : World) (he : (execOp a.eval op).run P w = .ok (.value v) w') (h : K (a.put op.dst v) w') : op.wp P a w K Q := by
  unfold Oper.wp
  rw [he]
  exact h

theorem owns_below {w w' : World} {B : Nat} {e : TypeId} {size n : Nat} {v : Value} {xs : List Value} (h : w.ownsRow B e size v n xs) (hb : Below w.heap.size w w') : w'.ownsRow B e size v n xs := by
  refine ⟨h.1, ?_⟩
  rcases h.2 with h2 | ⟨g, cap, cur, hv, hg, hh, r⟩
  · exact Or.inl h2
  · exact Or.inr ⟨g, cap, cur, hv, hg, by rw [hb.block g (Array.getElem?_eq_some_iff.1 hh).1]; exact hh, r⟩

theorem one2 (e : Int) (q : Option Addr) (n c : Nat) : (#[Value.int .i64 e, Value.slice q n c].all (·.oneCell')) = true :=
  all_oneCell_toArray (cs := [Value.int .i64 e, Value.slice q n c]) (fun v hv => by
    simp only [List.mem_cons, List.not_mem_nil, or_false] at hv
    rcases hv with rfl | rfl <;> rfl)

/-- All that lay in w lies as it did. -/
def Bl (w W : World) : Prop := Below w.heap.size w W

theorem Bl.stays (w : World) : Stays (Bl w) := fun _ _ h hb => h.trans (hb.mono h.size)

/-- .. and a row of members is the call's own. -/
def Bo (w : World) (g N n : Nat) (ms : List Mb) (W : World) : Prop := Bl w W ∧ W.ownsRow w.heap.size 48 3 (.slice (some ⟨g, 0, none⟩) n N) n (cellsM ms n)

theorem Bo.stays (w : World) (g N n : Nat) (ms : List Mb) : Stays (Bo w g N n ms) := fun W W' h hb => ⟨Bl.stays w W W' h.1 hb, owns_below h.2 hb⟩

/-- .. and a member lies in a block of its own. -/
def Bv (w : World) (vb : Nat) (m : Mb) (W : World) : Prop := Bl w W ∧ W.heap[vb]? = some (.cells m.cs.toArray 48)

theorem Bv.stays (w : World) (vb : Nat) (m : Mb) : Stays (Bv w vb m) := fun W W' h hb => ⟨Bl.stays w W W' h.1 hb, (hb.block vb (Array.getElem?_eq_some_iff.1 h.2).1).trans h.2⟩

/-- .. and members can be read. -/
def Br (w : World) (q : Option Addr) (n c : Nat) (ms : List Mb) (W : World) : Prop := Bl w W ∧ RdM W q n c ms

theorem Br.stays (w : World) (q : Option Addr) (n c : Nat) (ms : List Mb) : Stays (Br w q n c ms) := fun W W' h hb => ⟨Bl.stays w W W' h.1 hb, h.2.below hb⟩

/-- What is there in the end: the answer's box holds a chain that can be read. -/
def Bz (b : Nat) (w : World) (r : Nat) (e : Int) (q : Option Addr) (n c : Nat) (ms : List Mb) (W : World) : Prop := Below b w W ∧ RdM W q n c ms ∧ W.cell? ⟨r, 0, none⟩ = some (.int .i64 e) ∧ W.cell? ⟨r, 1, none⟩ = some (.slice q n c) ∧ b ≤ W.heap.size

theorem Bz.stays (b : Nat) (w : World) (r : Nat) (e : Int) (q : Option Addr) (n c : Nat) (ms : List Mb) : Stays (Bz b w r e q n c ms) := fun _ _ h hb =>
  ⟨h.1.trans (hb.mono h.2.2.2.2), h.2.1.below hb, (hb.cell (p := ⟨r, 0, none⟩) (World.block_lt_of_cell? _ _ h.2.2.1)).trans h.2.2.1, (hb.cell (p := ⟨r, 1, none⟩) (World.block_lt_of_cell? _ _ h.2.2.2.1)).trans h.2.2.2.1, Nat.le_trans h.2.2.2.2 hb.size⟩

/-- A chain with a node behind those of its site. -/
def joinR (e : Int) (ms : List Mb) (m : Mb) : CR :=
  if chk e ms = false then .error 80 else if isMb m = false then .error 81 else
  if hasN (thN (fun _ => true) 0 ms) m.n = true then .error 82 else if 1099511627776 ≤ e then .error 5 else
  if behM ms m.s = 0 then .error 152 else .ok (e + 1, insM ms (behM ms m.s).toNat ⟨m.n, m.s, true⟩)

theorem RdM.set1 {W : World} {q : Option Addr} {n c b j : Nat} {ms : List Mb} (h : RdM W q n c ms) (v : Value) (hq : ∀ a, q = some a → 0 < n → a.block ≠ b) : RdM (W.setCell ⟨b, j, none⟩ v) q n c ms := by
  refine ⟨h.len, h.cap, h.nil, fun hn => ?_⟩
  obtain ⟨g, o, rfl, hc⟩ := h.cells hn
  have hne := hq _ rfl hn
  have e : ∀ i, (W.setCell ⟨b, j, none⟩ v).cell? ⟨g, i, none⟩ = W.cell? ⟨g, i, none⟩ := fun i => World.cell?_setCell_other _ _ _ _ (fun h => hne (congrArg Addr.block h).symm)
  exact ⟨g, o, rfl, fun i hi => by rw [e, e, e]; exact hc i hi⟩

theorem Gr.far {W : World} {b r x j : Nat} {e : Int} {p : Option Addr} {n c : Nat} (h : Gr W b r e p n c) (h1 : x ≠ b) (h2 : x ≠ r) (v : Value) : Gr (W.setCell ⟨x, j, none⟩ v) b r e p n c := by
  have e1 : ∀ i, (W.setCell ⟨x, j, none⟩ v).cell? ⟨b, i, none⟩ = W.cell? ⟨b, i, none⟩ := fun i => World.cell?_setCell_other _ _ _ _ (fun h => h1 (congrArg Addr.block h))
  have e2 : ∀ i, (W.setCell ⟨x, j, none⟩ v).cell? ⟨r, i, none⟩ = W.cell? ⟨r, i, none⟩ := fun i => World.cell?_setCell_other _ _ _ _ (fun h => h2 (congrArg Addr.block h))
  exact ⟨by rw [e1]; exact h.a0, by rw [e1]; exact h.a1, by rw [e2]; exact h.b0, by rw [e2]; exact h.b1, by rw [World.frozen?_setCell]; exact h.f0, by rw [World.frozen?_setCell]; exact h.f1, by simpa using h.lt, h.br⟩

theorem Below.undrew {W W' : World} (h : Below W.drew.heap.size W.drew W') : Below W.heap.size W W' := ⟨h.os, h.tape, h.output, h.size, h.block⟩

set_option linter.unusedSimpArgs false in
set_option maxRecDepth 20000 in
set_option maxHeartbeats 4000000 in
theorem Join_any (e : Int) (p : Option Addr) (n c : Nat) (ms : List Mb) (m : Mb) (w : World) (hr : RdM w p n c ms) (hn : n ≤ 5864062014805) :
    Calls Try.prog 72 #[.agg #[.int .i64 e, .slice p n c], .agg #[.int .i64 m.n, .int .i64 m.s, .bool m.f]] w fun r w' => ∃ v, r = .returned v ∧ Told w.heap.size w' v (joinR e ms m) ∧ Below w.heap.size w w' := by
  obtain ⟨mn, msi, mf⟩ := m
  dsimp only
  have hF := Gr.new2 w e p n c (.cells #[.int .i64 mn, .int .i64 msi, .bool mf] 48)
  have hb0 : Below w.heap.size w (((w.alloc (.cells #[.int .i64 e, .slice p n c] 42)).alloc (.cells #[.int .i64 mn, .int .i64 msi, .bool mf] 48)).alloc (.cells #[.int .i64 0, .slice none 0 0] 42)) := (((Below.refl _ _).alloc (Nat.le_refl _) _).alloc (by simp) _).alloc (by simp; omega) _
  have hmrow := (rows3 w (.cells #[.int .i64 e, .slice p n c] 42) (.cells #[.int .i64 mn, .int .i64 msi, .bool mf] 48) (.cells #[.int .i64 0, .slice none 0 0] 42)).2.1
  have hl := hr.len
  have hpb : ∀ a, p = some a → 0 < n → a.block < w.heap.size := fun a ha h0 => by
    obtain ⟨g, o, e1, hc⟩ := hr.cells h0
    rw [ha] at e1
    cases e1
    exact World.block_lt_of_cell? _ _ (hc 0 h0).1
  have hr0 := hr.below hb0
  have hC := Check_any e p n c ms _ hr0 hn
  unfold chkV at hC
  generalize hw : w.heap.size = b at *
  go_enter Try.func72, Try.ntmps72
  go_wp2_with fail
  generalize (((w.alloc (.cells #[.int .i64 e, .slice p n c] 42)).alloc (.cells #[.int .i64 mn, .int .i64 msi, .bool mf] 48)).alloc (.cells #[.int .i64 0, .slice none 0 0] 42)) = w0 at *
  refine hC.mono ?_
  rintro r w1 ⟨rfl, hb1⟩
  have hlt0 := hF.lt
  have hF1 := hF.below hb1
  have hB1 := hb0.trans (hb1.mono (by omega))
  have hr1 := hr0.below hb1
  have hm1 : w1.heap[b + 1]? = some (.cells #[.int .i64 mn, .int .i64 msi, .bool mf] 48) := (hb1.block (b + 1) (by omega)).trans hmrow
  clear hC hmrow
  cases hk : chk e ms with
  | false =>
    have HR : Hid (joinR e ms ⟨mn, msi, mf⟩ = .error 80) := by unfold Hid joinR; rw [hk]; rfl
    have e0 := hF1.put0 (.int .i64 0) (.slice none 0 0)
    have e1 := hF1.put1 (.int .i64 0) (.slice none 0 0)
    have hbb := Gr.putB hB1 (show b ≤ b + 1 + 1 by omega) (.int .i64 0) (.slice none 0 0)
    obtain ⟨a0, a1, b0, b1, f0, f1, lt, br⟩ := hF1
    clear hF hr hr0 hb0 hb1 hk hr1 hm1
    simp only [Bool.false_eq_true, if_false]
    go_wp2_with fail
    exact bodyPost_ret (results_chain (p := 4) (u := 5) rfl _ _ (b + 1 + 1) _ _ rfl e0 e1) rfl ⟨_, rfl, by rw [HR.out]; rfl, hbb⟩
  | true =>
    obtain ⟨he1, he2, hn0, hn6⟩ := chk_parts hk
    have hBh := behind_any e p n c ms msi w1 hr1 hn
    have hbd := behM_bounds ms msi
    have HR : Hid (joinR e ms ⟨mn, msi, mf⟩ = if isMb ⟨mn, msi, mf⟩ = false then .error 81 else
        if hasN (thN (fun _ => true) 0 ms) mn = true then .error 82 else if 1099511627776 ≤ e then .error 5 else
        if behM ms msi = 0 then .error 152 else .ok (e + 1, insM ms (behM ms msi).toNat ⟨mn, msi, true⟩)) := by unfold Hid joinR; rw [hk]; rfl
    generalize behM ms msi = z at *
    have hk1 := hF1
    obtain ⟨a0, a1, b0, b1, f0, f1, lt, br⟩ := hF1
    have x0 := cell_row hm1 (j := 0) (v := .int .i64 mn) rfl
    have x1 := cell_row hm1 (j := 1) (v := .int .i64 msi) rfl
    have x2 := cell_row hm1 (j := 2) (v := .bool mf) rfl
    clear hF hr hr0 hb0 hb1 hk
    simp only [if_true]
    go_wp2_with fail
    refine hBh.mono ?_
    rintro r w2 ⟨rfl, hb2⟩
    have hk2 := hk1.below hb2
    have hB2 := hB1.trans (hb2.mono (by omega))
    have hr2 := hr1.below hb2
    have hm2 := (hb2.block (b + 1) (by omega)).trans hm1
    clear a0 a1 b0 b1 f0 f1 x0 x1 x2 hBh hk1 hr1 hm1
    have hk2' := hk2
    obtain ⟨a0, a1, b0, b1, f0, f1, lt2, br2⟩ := hk2'
    have x0 := cell_row hm2 (j := 0) (v := .int .i64 mn) rfl
    have x1 := cell_row hm2 (j := 1) (v := .int .i64 msi) rfl
    have x2 := cell_row hm2 (j := 2) (v := .bool mf) rfl
    have hM := isMember_any ⟨mn, msi, mf⟩ w2
    dsimp only at hM
    generalize isMb ⟨mn, msi, mf⟩ = h1 at *
    go_wp2_with fail
    refine hM.mono ?_
    rintro r w3 ⟨rfl, hb3⟩
    have hk3 := hk2.below hb3
    have hB3 := hB2.trans (hb3.mono (by omega))
    have hr3 := hr2.below hb3
    have hm3 := (hb3.block (b + 1) (by omega)).trans hm2
    clear a0 a1 b0 b1 f0 f1 x0 x1 x2 hM hk2 hr2 hm2
    have hk3' := hk3
    obtain ⟨a0, a1, b0, b1, f0, f1, lt3, br3⟩ := hk3'
    cases h1 with
    | false =>
      have HR2 : Hid (joinR e ms ⟨mn, msi, mf⟩ = .error 81) := HR.out
      have e0 := hk3.put0 (.int .i64 0) (.slice none 0 0)
      have e1 := hk3.put1 (.int .i64 0) (.slice none 0 0)
      have hbb := Gr.putB hB3 (show b ≤ b + 1 + 1 by omega) (.int .i64 0) (.slice none 0 0)
      clear HR
      go_wp2_with fail
      exact bodyPost_ret (results_chain (p := 4) (u := 5) rfl _ _ (b + 1 + 1) _ _ rfl e0 e1) rfl ⟨_, rfl, by rw [HR2.out]; rfl, hbb⟩
    | true =>
      have HR2 : Hid (joinR e ms ⟨mn, msi, mf⟩ = if hasN (thN (fun _ => true) 0 ms) mn = true then .error 82 else if 1099511627776 ≤ e then .error 5 else
          if z = 0 then .error 152 else .ok (e + 1, insM ms z.toNat ⟨mn, msi, true⟩)) := HR.out
      clear HR
      have x0 := cell_row hm3 (j := 0) (v := .int .i64 mn) rfl
      have k0 := cell_regrown a0
      have k1 := cell_regrown a1
      have k2 := cell_regrown x0
      have hxl := thN_lt (fun _ => true) ms 0 (by decide)
      have cN : ∀ d os, Calls Try.prog 23 #[.agg #[.int .i64 e, .slice p n c]] (Sort.grow (redrawn w3 d) os) fun e w'' => e = .returned (.int .u64 ((thN (fun _ => true) 0 ms : Nat) : Int)) ∧ ∃ p : Regrown, w'' = Sort.grow (redrawn w3 p.d) p.os := fun d os => Calls.regrown_of (Nodes_any e p n c ms _ (hr3.below (below_regrown _ _ _)) hn)
      generalize thN (fun _ => true) 0 ms = X at *
      have cH : ∀ d os, Calls Try.prog 46 #[.int .u64 X, .int .i64 mn] (Sort.grow (redrawn w3 d) os) fun e w'' => e = .returned (.bool (hasN X mn)) ∧ ∃ p : Regrown, w'' = Sort.grow (redrawn w3 p.d) p.os := fun d os => Calls.regrown_of ((has_any X mn _ hxl).mono fun _ _ ⟨h1, h2⟩ => ⟨h1, by rw [h2]; exact Below.refl _ _⟩)
      generalize hasN X mn = h2 at *
      go_wp2_with fail
      refine wp_region_quiet_below (by kernel_rfl) (by kernel_rfl) ?_
      repeat (quiet_step (first | exact cN _ _ | exact cH _ _))
      refine wpQuiet_nil ?_
      intro _ hw'
      obtain ⟨⟨dq, osq⟩, hw''⟩ := hw'
      subst hw''
      have hb4 := below_regrown w3 dq osq
      have hk4 := hk3.below hb4
      have hB4 := hB3.trans (hb4.mono (by omega))
      have hr4 := hr3.below hb4
      have hm4 := (hb4.block (b + 1) (by omega)).trans hm3
      clear a0 a1 b0 b1 f0 f1 x0 k0 k1 k2 cN cH hk3 hr3 hm3 hb4
      generalize Sort.grow (redrawn w3 dq) osq = w4 at *
      have hk4' := hk4
      obtain ⟨a0, a1, b0, b1, f0, f1, lt4, br4⟩ := hk4'
      cases h2 with
      | true =>
        have HR3 : Hid (joinR e ms ⟨mn, msi, mf⟩ = .error 82) := HR2.out
        have e0 := hk4.put0 (.int .i64 0) (.slice none 0 0)
        have e1 := hk4.put1 (.int .i64 0) (.slice none 0 0)
        have hbb := Gr.putB hB4 (show b ≤ b + 1 + 1 by omega) (.int .i64 0) (.slice none 0 0)
        clear HR2
        go_wp2_with fail
        exact bodyPost_ret (results_chain (p := 4) (u := 5) rfl _ _ (b + 1 + 1) _ _ rfl e0 e1) rfl ⟨_, rfl, by rw [HR3.out]; rfl, hbb⟩
      | false =>
        have HR3 : Hid (joinR e ms ⟨mn, msi, mf⟩ = if 1099511627776 ≤ e then .error 5 else if z = 0 then .error 152 else .ok (e + 1, insM ms z.toNat ⟨mn, msi, true⟩)) := HR2.out
        clear HR2
        have hL := last_any e p n c w4
        go_wp2_with fail
        refine hL.mono ?_
        rintro r w5 ⟨rfl, hb5⟩
        have hk5 := hk4.below hb5
        have hB5 := hB4.trans (hb5.mono (by omega))
        have hr5 := hr4.below hb5
        have hm5 := (hb5.block (b + 1) (by omega)).trans hm4
        clear a0 a1 b0 b1 f0 f1 hL hk4 hr4 hm4
        have hk5' := hk5
        obtain ⟨a0, a1, b0, b1, f0, f1, lt5, br5⟩ := hk5'
        by_cases h40 : 1099511627776 ≤ e
        · have HR4 : Hid (joinR e ms ⟨mn, msi, mf⟩ = .error 5) := by unfold Hid; rw [HR3.out, if_pos h40]
          have e0 := hk5.put0 (.int .i64 0) (.slice none 0 0)
          have e1 := hk5.put1 (.int .i64 0) (.slice none 0 0)
          have hbb := Gr.putB hB5 (show b ≤ b + 1 + 1 by omega) (.int .i64 0) (.slice none 0 0)
          clear HR3
          go_wp2_with fail
          exact bodyPost_ret (results_chain (p := 4) (u := 5) rfl _ _ (b + 1 + 1) _ _ rfl e0 e1) rfl ⟨_, rfl, by rw [HR4.out]; rfl, hbb⟩
        · have hd40 : decide (1099511627776 ≤ e) = false := decide_eq_false h40
          by_cases hz : z = 0
          · have HR4 : Hid (joinR e ms ⟨mn, msi, mf⟩ = .error 152) := by unfold Hid; rw [HR3.out, if_neg h40, if_pos hz]
            have e0 := hk5.put0 (.int .i64 0) (.slice none 0 0)
            have e1 := hk5.put1 (.int .i64 0) (.slice none 0 0)
            have hbb := Gr.putB hB5 (show b ≤ b + 1 + 1 by omega) (.int .i64 0) (.slice none 0 0)
            subst hz
            clear HR3
            go_wp2_with fail
            exact bodyPost_ret (results_chain (p := 4) (u := 5) rfl _ _ (b + 1 + 1) _ _ rfl e0 e1) rfl ⟨_, rfl, by rw [HR4.out]; rfl, hbb⟩
          · obtain ⟨k, rfl⟩ := Int.eq_ofNat_of_zero_le hbd.1
            have hkn : k ≤ n := by omega
            have hz2 : ((k : Int) == 0) = false := by simp; omega
            have HR4 : Hid (joinR e ms ⟨mn, msi, mf⟩ = .ok (e + 1, insM ms k ⟨mn, msi, true⟩)) := by unfold Hid; rw [HR3.out, if_neg h40, if_neg hz, Int.toNat_natCast]
            have x0 := cell_row hm5 (j := 0) (v := .int .i64 mn) rfl
            have x1 := cell_row hm5 (j := 1) (v := .int .i64 msi) rfl
            have x2 := cell_row hm5 (j := 2) (v := .bool mf) rfl
            have fx := frozen_of_row w5 (b + 1) 2 _ _ hm5
            clear HR3 hz hbd
            have hk6 := hk5.far (x := b + 1) (j := 2) (by omega) (by omega) (.bool true)
            have hr6 := hr5.set1 (b := b + 1) (j := 2) (.bool true) (fun a ha h0 => by have := hpb a ha h0; omega)
            have hB6 : Below b w (w5.setCell ⟨b + 1, 2, none⟩ (.bool true)) := hB5.setCell (Nat.le_succ b) _
            have y0 : (w5.setCell ⟨b + 1, 2, none⟩ (.bool true)).cell? ⟨b + 1, 0, none⟩ = some (.int .i64 mn) := by rw [World.cell?_setCell_other (h := by simp)]; exact x0
            have y1 : (w5.setCell ⟨b + 1, 2, none⟩ (.bool true)).cell? ⟨b + 1, 1, none⟩ = some (.int .i64 msi) := by rw [World.cell?_setCell_other (h := by simp)]; exact x1
            have y2 : (w5.setCell ⟨b + 1, 2, none⟩ (.bool true)).cell? ⟨b + 1, 2, none⟩ = some (.bool true) := by rw [World.cell?_setCell_same (h := x2)]
            go_wp2_with fail
            clear a0 a1 b0 b1 f0 f1 x0 x1 x2 fx hm5 hr5 hk5 hB1 hB2 hB3 hB4 hB5 hb2 hb3 hb5 lt lt2 lt3 lt4 lt5 hxl
            generalize (w5.setCell ⟨b + 1, 2, none⟩ (.bool true)) = w6 at *
            have hk6' := hk6
            obtain ⟨a0, a1, b0, b1, f0, f1, lt6, br6⟩ := hk6'
            have hS0 : Bl w6 w6.drew := (Below.refl _ _).drew
            refine wp_region_det [0, 1, 2, 4, 5, 9, 10] (Bl w6) (Bl w6) (by kernel_rfl) hS0 ?_
            refine wpDet_take ?vA0 (Bl.stays w6) (fun _ h => h) (i := 0) rfl (by kernel_rfl) (by kernel_rfl) (by kernel_rfl) (by kernel_rfl) (fun _ _ _ h => h) (Gives.value (by rfl) ?yA0) ?rA0
            case yA0 => (intro w' hSw; have za0 := (Below.cell hSw (p := ⟨b, 0, none⟩) (World.block_lt_of_cell? _ _ a0)).trans a0; have za1 := (Below.cell hSw (p := ⟨b, 1, none⟩) (World.block_lt_of_cell? _ _ a1)).trans a1; go_simp; try with_reducible rfl)
            (try simp only [Act.put, List.getElem_toArray, List.getElem_cons_zero, List.getElem_cons_succ, List.setIfInBounds_toArray, List.set_cons_zero, List.set_cons_succ])
            refine wpDet_take ?vA1 (Bl.stays w6) (fun _ h => h) (i := 1) rfl (by kernel_rfl) (by kernel_rfl) (by kernel_rfl) (by kernel_rfl) (fun _ _ _ h => h) (Gives.value (by rfl) ?yA1) ?rA1
            case yA1 => (intro w' hSw; have za0 := (Below.cell hSw (p := ⟨b, 0, none⟩) (World.block_lt_of_cell? _ _ a0)).trans a0; have za1 := (Below.cell hSw (p := ⟨b, 1, none⟩) (World.block_lt_of_cell? _ _ a1)).trans a1; go_simp; try with_reducible rfl)
            (try simp only [Act.put, List.getElem_toArray, List.getElem_cons_zero, List.getElem_cons_succ, List.setIfInBounds_toArray, List.set_cons_zero, List.set_cons_succ])
            refine wpDet_take ?vA2 (Bl.stays w6) (fun _ h => h) (i := 2) rfl (by kernel_rfl) (by kernel_rfl) (by kernel_rfl) (by kernel_rfl) (fun _ _ _ h => h) (Gives.value (by rfl) ?yA2) ?rA2
            case yA2 => (intro w' hSw; have za0 := (Below.cell hSw (p := ⟨b, 0, none⟩) (World.block_lt_of_cell? _ _ a0)).trans a0; have za1 := (Below.cell hSw (p := ⟨b, 1, none⟩) (World.block_lt_of_cell? _ _ a1)).trans a1; go_simp; try with_reducible rfl)
            (try simp only [Act.put, List.getElem_toArray, List.getElem_cons_zero, List.getElem_cons_succ, List.setIfInBounds_toArray, List.set_cons_zero, List.set_cons_succ])
            refine wpDet_take ?vA4 (Bl.stays w6) (fun _ h => h) (i := 4) rfl (by kernel_rfl) (by kernel_rfl) (by kernel_rfl) (by kernel_rfl) (fun _ _ _ h => h) (Gives.value (by rfl) ?yA4) ?rA4
            case yA4 => (intro w' hSw; go_simp; try with_reducible rfl)
            (try simp only [Act.put, List.getElem_toArray, List.getElem_cons_zero, List.getElem_cons_succ, List.setIfInBounds_toArray, List.set_cons_zero, List.set_cons_succ])
            refine wpDet_take ?vA5 (Bl.stays w6) (fun _ h => h) (i := 5) rfl (by kernel_rfl) (by kernel_rfl) (by kernel_rfl) (by kernel_rfl) (fun _ _ _ h => h) (Gives.value (by rfl) ?yA5) ?rA5
            case yA5 => (intro w' hSw; have zy0 := (Below.cell hSw (p := ⟨b + 1, 0, none⟩) (World.block_lt_of_cell? _ _ y0)).trans y0; have zy1 := (Below.cell hSw (p := ⟨b + 1, 1, none⟩) (World.block_lt_of_cell? _ _ y1)).trans y1; have zy2 := (Below.cell hSw (p := ⟨b + 1, 2, none⟩) (World.block_lt_of_cell? _ _ y2)).trans y2; go_simp; try with_reducible rfl)
            (try simp only [Act.put, List.getElem_toArray, List.getElem_cons_zero, List.getElem_cons_succ, List.setIfInBounds_toArray, List.set_cons_zero, List.set_cons_succ])
            refine wpDet_ready (rs := [3, 6]) (by kernel_rfl) (by simp) (AllDet.cons rfl (fun V hV K hK => ?_) (AllDet.cons rfl (fun V hV K hK => ?_) AllDet.nil))
            · rw [if_pos (by rfl)]
              have hCv := cloneM_any p n c ms V (hr6.below hV) hn
              refine wp_enterE 64 #[.slice p n c] (by first | (go_simp; done) | (go_simp; rfl)) (fun v W => Copy W V.heap.size n ms v ∧ Below V.heap.size V W) (hCv.mono fun e' w' hh => by obtain ⟨v, h1, h2, h3⟩ := hh; exact ⟨v, h1, h2, h3⟩) ?_
              rintro v7 V7 ⟨hcp, hb7⟩
              obtain ⟨h0, ho⟩ := hcp.resolve_left (fun h => by have := h.1; omega)
              obtain ⟨g, N, rfl, hg, hR7⟩ := Row.of_owns ho hl h0
              refine hK.out (Bo w6 g N n ms) _ _ (Bo.stays w6 _ _ _ _) (fun _ _ h => h.1) ⟨Bl.stays w6 V V7 hV hb7, ownsRow_lower ho (Below.size hV)⟩ ?_
              clear hK K hCv hcp ho hR7 hb7 hV
              (try simp only [Act.put, List.getElem_toArray, List.getElem_cons_zero, List.getElem_cons_succ, List.setIfInBounds_toArray, List.set_cons_zero, List.set_cons_succ])
              refine wpDet_ready (rs := [6]) (by kernel_rfl) (by simp) (AllDet.cons rfl (fun V hV K hK => ?_) AllDet.nil)
              rw [if_pos (by rfl)]
              refine wp_value (.slice (some ⟨V.heap.size, 0, none⟩) 1 1) (V.alloc (.cells #[.int .i64 mn, .int .i64 msi, .bool true] 48)) (by first | (go_simp; done) | (go_simp; rfl)) ?_
              have hvg : V.heap.size ≠ g := by obtain ⟨g', cap, e1, _, hR⟩ := Row.of_owns hV.2 hl h0; cases e1; exact Nat.ne_of_gt hR.lt
              refine hK.out (fun W => Bo w6 g N n ms W ∧ Bv w6 V.heap.size ⟨mn, msi, true⟩ W) _ _ ((Bo.stays w6 g N n ms).and (Bv.stays w6 V.heap.size ⟨mn, msi, true⟩)) (fun _ _ h => h.1.1) ⟨Bo.stays w6 g N n ms V _ hV ((Below.refl _ _).alloc (Nat.le_refl _) _), Bl.stays w6 V _ hV.1 ((Below.refl _ _).alloc (Nat.le_refl _) _), heap_alloc_new _ _⟩ ?_
              clear hK K hV
              generalize V.heap.size = vb at *
              (try simp only [Act.put, List.getElem_toArray, List.getElem_cons_zero, List.getElem_cons_succ, List.setIfInBounds_toArray, List.set_cons_zero, List.set_cons_succ])
              refine wpDet_ready (rs := [7]) (by kernel_rfl) (by simp) (AllDet.cons rfl (fun V hV K hK => ?_) AllDet.nil)
              rw [if_pos (by rfl)]
              have hI := insert_any V w6.heap.size g N vb ms ⟨mn, msi, true⟩ n k hl h0 hV.1.2 (Below.size hV.1.1) (by omega) hkn hV.2.2 hvg
              have hVb : Below w6.heap.size w6 V := hV.1.1
              refine wp_enterE 82 #[.slice (some ⟨g, 0, none⟩) n N, .int .i64 k, .slice (some ⟨vb, 0, none⟩) 1 1] (by first | (go_simp; done) | (go_simp; rfl)) (fun v W => ∃ gb go gc, v = .slice (some ⟨gb, go, none⟩) (n + 1) gc ∧ w6.heap.size ≤ gb ∧ RdM W (some ⟨gb, go, none⟩) (n + 1) gc (insM ms k ⟨mn, msi, true⟩) ∧ Below w6.heap.size V W) (hI.mono fun e' w' hh => by obtain ⟨gb, go, gc, h1, h2, h3, h4⟩ := hh; exact ⟨_, h1, gb, go, gc, rfl, h2, h3, h4⟩) ?_
              clear hI hV
              rintro v8 V8 ⟨gb, go, gc, rfl, hgb, hr8, hb8⟩
              refine hK.out (Br w6 (some ⟨gb, go, none⟩) (n + 1) gc (insM ms k ⟨mn, msi, true⟩)) _ _ (Br.stays w6 _ _ _ _) (fun _ _ h => h.1) ⟨hVb.trans hb8, hr8⟩ ?_
              clear hK K hr8 hb8 hVb
              (try simp only [Act.put, List.getElem_toArray, List.getElem_cons_zero, List.getElem_cons_succ, List.setIfInBounds_toArray, List.set_cons_zero, List.set_cons_succ])
              refine wpDet_ready (rs := [8]) (by kernel_rfl) (by simp) (AllDet.cons rfl (fun V hV K hK => ?_) AllDet.nil)
              rw [if_pos (by rfl)]
              have hI := follow_any e p n c (some ⟨gb, go, none⟩) (n + 1) gc V he1 (by omega)
              refine wp_enterE 81 #[.agg #[.int .i64 e, .slice p n c], .slice (some ⟨gb, go, none⟩) (n + 1) gc] (by first | (go_simp; done) | (go_simp; rfl)) (fun v W => v = .tuple #[.agg #[.int .i64 (e + 1), .slice (some ⟨gb, go, none⟩) (n + 1) gc], .int .i64 0] ∧ Below V.heap.size V W) (hI.mono fun e' w' hh => ⟨_, hh.1, rfl, hh.2⟩) ?_
              rintro v9 V9 ⟨rfl, hb9⟩
              refine hK.out (Br w6 (some ⟨gb, go, none⟩) (n + 1) gc (insM ms k ⟨mn, msi, true⟩)) _ _ (Br.stays w6 _ _ _ _) (fun _ _ h => h.1) (Br.stays w6 _ _ _ _ V V9 hV hb9) ?_
              clear hK K hI hV hb9
              (try simp only [Act.put, List.getElem_toArray, List.getElem_cons_zero, List.getElem_cons_succ, List.setIfInBounds_toArray, List.set_cons_zero, List.set_cons_succ])
              refine wpDet_take ?vB9 (Br.stays w6 _ _ _ _) (fun _ h => h.1) (i := 9) rfl (by kernel_rfl) (by kernel_rfl) (by kernel_rfl) (by kernel_rfl) (fun _ _ _ h => h) (Gives.value (by rfl) ?yB9) ?rB9
              case yB9 => (intro w' hSw; go_simp; try with_reducible rfl)
              (try simp only [Act.put, List.getElem_toArray, List.getElem_cons_zero, List.getElem_cons_succ, List.setIfInBounds_toArray, List.set_cons_zero, List.set_cons_succ])
              refine wpDet_take ?vB10 (Br.stays w6 _ _ _ _) (fun _ h => h.1) (i := 10) rfl (by kernel_rfl) (by kernel_rfl) (by kernel_rfl) (by kernel_rfl) (fun _ _ _ h => h) (Gives.value (by rfl) ?yB10) ?rB10
              case yB10 => (intro w' hSw; go_simp; try with_reducible rfl)
              (try simp only [Act.put, List.getElem_toArray, List.getElem_cons_zero, List.getElem_cons_succ, List.setIfInBounds_toArray, List.set_cons_zero, List.set_cons_succ])
              refine wpDet_ready (rs := [11]) (by kernel_rfl) (by simp) (AllDet.cons rfl (fun V hV K hK => ?_) AllDet.nil)
              rw [if_pos (by rfl)]
              have hG := hk6.below hV.1
              have hth : V.there (b + 1 + 1) 0 2 := fun j hj => by rw [Nat.zero_add]; match j, hj with | 0, _ => exact ⟨by rw [hG.b0]; rfl, hG.f0⟩ | 1, _ => exact ⟨by rw [hG.b1]; rfl, hG.f1⟩
              refine wp_store_mid 42 _ _ rfl (b + 1 + 1) 0 #[.int .i64 (e + 1), .slice (some ⟨gb, go, none⟩) (n + 1) gc] rfl rfl hth sizeC (one2 _ _ _ _) ?_
              have hz : Bz b w (b + 1 + 1) (e + 1) (some ⟨gb, go, none⟩) (n + 1) gc (insM ms k ⟨mn, msi, true⟩) ((V.setCell ⟨b + 1 + 1, 0, none⟩ (.int .i64 (e + 1))).setCell ⟨b + 1 + 1, 1, none⟩ (.slice (some ⟨gb, go, none⟩) (n + 1) gc)) := ⟨Gr.putB (hB6.trans (Below.mono hV.1 (by omega))) (by omega) _ _, hV.2.put _ _ (fun a ha _ => by cases ha; show gb ≠ b + 1 + 1; omega), hG.put0 _ _, hG.put1 _ _, by have := hG.lt; simp; omega⟩
              refine hK.out (Bz b w (b + 1 + 1) (e + 1) (some ⟨gb, go, none⟩) (n + 1) gc (insM ms k ⟨mn, msi, true⟩)) _ _ (Bz.stays _ _ _ _ _ _ _ _) (no_lean (by kernel_rfl)) hz ?_
              clear hK K hV hG hth hz
              (try simp only [Act.put, List.getElem_toArray, List.getElem_cons_zero, List.getElem_cons_succ, List.setIfInBounds_toArray, List.set_cons_zero, List.set_cons_succ])
              refine wpDet_ready (rs := [12]) (by kernel_rfl) (by simp) (AllDet.cons rfl (fun V hV K hK => ?_) AllDet.nil)
              rw [if_pos (by rfl)]
              refine wp_value (.int .i64 0) V (by first | (go_simp; done) | (go_simp; rfl)) ?_
              refine hK.out (Bz b w (b + 1 + 1) (e + 1) (some ⟨gb, go, none⟩) (n + 1) gc (insM ms k ⟨mn, msi, true⟩)) _ _ (Bz.stays _ _ _ _ _ _ _ _) (no_lean (by kernel_rfl)) hV ?_
              clear hK K hV
              (try simp only [Act.put, List.getElem_toArray, List.getElem_cons_zero, List.getElem_cons_succ, List.setIfInBounds_toArray, List.set_cons_zero, List.set_cons_succ])
              refine wpDet_done (by kernel_rfl) (fun W9 hV => ?_) _
              obtain ⟨z1, z2, z3, z4, _⟩ := hV
              go_wp2_with fail
              exact bodyPost_ret (results_chain (p := 4) (u := 5) rfl _ _ (b + 1 + 1) _ _ rfl z3 z4) rfl ⟨_, rfl, by rw [HR4.out]; refine ⟨some ⟨gb, go, none⟩, gc, by rw [insM_len, hl]; rfl, (fun a ha _ => by cases ha; show b ≤ gb; omega), ?_⟩; rw [insM_len, hl]; exact z2, z1⟩
            · rw [if_pos (by rfl)]
              refine wp_value (.slice (some ⟨V.heap.size, 0, none⟩) 1 1) (V.alloc (.cells #[.int .i64 mn, .int .i64 msi, .bool true] 48)) (by first | (go_simp; done) | (go_simp; rfl)) ?_
              refine hK.out (Bv w6 V.heap.size ⟨mn, msi, true⟩) _ _ (Bv.stays w6 V.heap.size ⟨mn, msi, true⟩) (fun _ _ h => h.1) ⟨Bl.stays w6 V _ hV ((Below.refl _ _).alloc (Nat.le_refl _) _), heap_alloc_new _ _⟩ ?_
              clear hK K hV
              generalize V.heap.size = vb at *
              (try simp only [Act.put, List.getElem_toArray, List.getElem_cons_zero, List.getElem_cons_succ, List.setIfInBounds_toArray, List.set_cons_zero, List.set_cons_succ])
              refine wpDet_ready (rs := [3]) (by kernel_rfl) (by simp) (AllDet.cons rfl (fun V hV K hK => ?_) AllDet.nil)
              rw [if_pos (by rfl)]
              have hCv := cloneM_any p n c ms V (hr6.below hV.1) hn
              refine wp_enterE 64 #[.slice p n c] (by first | (go_simp; done) | (go_simp; rfl)) (fun v W => Copy W V.heap.size n ms v ∧ Below V.heap.size V W) (hCv.mono fun e' w' hh => by obtain ⟨v, h1, h2, h3⟩ := hh; exact ⟨v, h1, h2, h3⟩) ?_
              rintro v7 V7 ⟨hcp, hb7⟩
              obtain ⟨h0, ho⟩ := hcp.resolve_left (fun h => by have := h.1; omega)
              obtain ⟨g, N, rfl, hg, hR7⟩ := Row.of_owns ho hl h0
              have hvg : vb ≠ g := Nat.ne_of_lt (Nat.lt_of_lt_of_le (Array.getElem?_eq_some_iff.1 hV.2).1 hg)
              refine hK.out (fun W => Bo w6 g N n ms W ∧ Bv w6 vb ⟨mn, msi, true⟩ W) _ _ ((Bo.stays w6 g N n ms).and (Bv.stays w6 vb ⟨mn, msi, true⟩)) (fun _ _ h => h.1.1) ⟨⟨Bl.stays w6 V V7 hV.1 hb7, ownsRow_lower ho (Below.size hV.1)⟩, Bv.stays w6 vb ⟨mn, msi, true⟩ V V7 hV hb7⟩ ?_
              clear hK K hCv hcp ho hR7 hb7 hV
              (try simp only [Act.put, List.getElem_toArray, List.getElem_cons_zero, List.getElem_cons_succ, List.setIfInBounds_toArray, List.set_cons_zero, List.set_cons_succ])
              refine wpDet_ready (rs := [7]) (by kernel_rfl) (by simp) (AllDet.cons rfl (fun V hV K hK => ?_) AllDet.nil)
              rw [if_pos (by rfl)]
              have hI := insert_any V w6.heap.size g N vb ms ⟨mn, msi, true⟩ n k hl h0 hV.1.2 (Below.size hV.1.1) (by omega) hkn hV.2.2 hvg
              have hVb : Below w6.heap.size w6 V := hV.1.1
              refine wp_enterE 82 #[.slice (some ⟨g, 0, none⟩) n N, .int .i64 k, .slice (some ⟨vb, 0, none⟩) 1 1] (by first | (go_simp; done) | (go_simp; rfl)) (fun v W => ∃ gb go gc, v = .slice (some ⟨gb, go, none⟩) (n + 1) gc ∧ w6.heap.size ≤ gb ∧ RdM W (some ⟨gb, go, none⟩) (n + 1) gc (insM ms k ⟨mn, msi, true⟩) ∧ Below w6.heap.size V W) (hI.mono fun e' w' hh => by obtain ⟨gb, go, gc, h1, h2, h3, h4⟩ := hh; exact ⟨_, h1, gb, go, gc, rfl, h2, h3, h4⟩) ?_
              clear hI hV
              rintro v8 V8 ⟨gb, go, gc, rfl, hgb, hr8, hb8⟩
              refine hK.out (Br w6 (some ⟨gb, go, none⟩) (n + 1) gc (insM ms k ⟨mn, msi, true⟩)) _ _ (Br.stays w6 _ _ _ _) (fun _ _ h => h.1) ⟨hVb.trans hb8, hr8⟩ ?_
              clear hK K hr8 hb8 hVb
              (try simp only [Act.put, List.getElem_toArray, List.getElem_cons_zero, List.getElem_cons_succ, List.setIfInBounds_toArray, List.set_cons_zero, List.set_cons_succ])
              refine wpDet_ready (rs := [8]) (by kernel_rfl) (by simp) (AllDet.cons rfl (fun V hV K hK => ?_) AllDet.nil)
              rw [if_pos (by rfl)]
              have hI := follow_any e p n c (some ⟨gb, go, none⟩) (n + 1) gc V he1 (by omega)
              refine wp_enterE 81 #[.agg #[.int .i64 e, .slice p n c], .slice (some ⟨gb, go, none⟩) (n + 1) gc] (by first | (go_simp; done) | (go_simp; rfl)) (fun v W => v = .tuple #[.agg #[.int .i64 (e + 1), .slice (some ⟨gb, go, none⟩) (n + 1) gc], .int .i64 0] ∧ Below V.heap.size V W) (hI.mono fun e' w' hh => ⟨_, hh.1, rfl, hh.2⟩) ?_
              rintro v9 V9 ⟨rfl, hb9⟩
              refine hK.out (Br w6 (some ⟨gb, go, none⟩) (n + 1) gc (insM ms k ⟨mn, msi, true⟩)) _ _ (Br.stays w6 _ _ _ _) (fun _ _ h => h.1) (Br.stays w6 _ _ _ _ V V9 hV hb9) ?_
              clear hK K hI hV hb9
              (try simp only [Act.put, List.getElem_toArray, List.getElem_cons_zero, List.getElem_cons_succ, List.setIfInBounds_toArray, List.set_cons_zero, List.set_cons_succ])
              refine wpDet_take ?vC9 (Br.stays w6 _ _ _ _) (fun _ h => h.1) (i := 9) rfl (by kernel_rfl) (by kernel_rfl) (by kernel_rfl) (by kernel_rfl) (fun _ _ _ h => h) (Gives.value (by rfl) ?yC9) ?rC9
              case yC9 => (intro w' hSw; go_simp; try with_reducible rfl)
              (try simp only [Act.put, List.getElem_toArray, List.getElem_cons_zero, List.getElem_cons_succ, List.setIfInBounds_toArray, List.set_cons_zero, List.set_cons_succ])
              refine wpDet_take ?vC10 (Br.stays w6 _ _ _ _) (fun _ h => h.1) (i := 10) rfl (by kernel_rfl) (by kernel_rfl) (by kernel_rfl) (by kernel_rfl) (fun _ _ _ h => h) (Gives.value (by rfl) ?yC10) ?rC10
              case yC10 => (intro w' hSw; go_simp; try with_reducible rfl)
              (try simp only [Act.put, List.getElem_toArray, List.getElem_cons_zero, List.getElem_cons_succ, List.setIfInBounds_toArray, List.set_cons_zero, List.set_cons_succ])
              refine wpDet_ready (rs := [11]) (by kernel_rfl) (by simp) (AllDet.cons rfl (fun V hV K hK => ?_) AllDet.nil)
              rw [if_pos (by rfl)]
              have hG := hk6.below hV.1
              have hth : V.there (b + 1 + 1) 0 2 := fun j hj => by rw [Nat.zero_add]; match j, hj with | 0, _ => exact ⟨by rw [hG.b0]; rfl, hG.f0⟩ | 1, _ => exact ⟨by rw [hG.b1]; rfl, hG.f1⟩
              refine wp_store_mid 42 _ _ rfl (b + 1 + 1) 0 #[.int .i64 (e + 1), .slice (some ⟨gb, go, none⟩) (n + 1) gc] rfl rfl hth sizeC (one2 _ _ _ _) ?_
              have hz : Bz b w (b + 1 + 1) (e + 1) (some ⟨gb, go, none⟩) (n + 1) gc (insM ms k ⟨mn, msi, true⟩) ((V.setCell ⟨b + 1 + 1, 0, none⟩ (.int .i64 (e + 1))).setCell ⟨b + 1 + 1, 1, none⟩ (.slice (some ⟨gb, go, none⟩) (n + 1) gc)) := ⟨Gr.putB (hB6.trans (Below.mono hV.1 (by omega))) (by omega) _ _, hV.2.put _ _ (fun a ha _ => by cases ha; show gb ≠ b + 1 + 1; omega), hG.put0 _ _, hG.put1 _ _, by have := hG.lt; simp; omega⟩
              refine hK.out (Bz b w (b + 1 + 1) (e + 1) (some ⟨gb, go, none⟩) (n + 1) gc (insM ms k ⟨mn, msi, true⟩)) _ _ (Bz.stays _ _ _ _ _ _ _ _) (no_lean (by kernel_rfl)) hz ?_
              clear hK K hV hG hth hz
              (try simp only [Act.put, List.getElem_toArray, List.getElem_cons_zero, List.getElem_cons_succ, List.setIfInBounds_toArray, List.set_cons_zero, List.set_cons_succ])
              refine wpDet_ready (rs := [12]) (by kernel_rfl) (by simp) (AllDet.cons rfl (fun V hV K hK => ?_) AllDet.nil)
              rw [if_pos (by rfl)]
              refine wp_value (.int .i64 0) V (by first | (go_simp; done) | (go_simp; rfl)) ?_
              refine hK.out (Bz b w (b + 1 + 1) (e + 1) (some ⟨gb, go, none⟩) (n + 1) gc (insM ms k ⟨mn, msi, true⟩)) _ _ (Bz.stays _ _ _ _ _ _ _ _) (no_lean (by kernel_rfl)) hV ?_
              clear hK K hV
              (try simp only [Act.put, List.getElem_toArray, List.getElem_cons_zero, List.getElem_cons_succ, List.setIfInBounds_toArray, List.set_cons_zero, List.set_cons_succ])
              refine wpDet_done (by kernel_rfl) (fun W9 hV => ?_) _
              obtain ⟨z1, z2, z3, z4, _⟩ := hV
              go_wp2_with fail
              exact bodyPost_ret (results_chain (p := 4) (u := 5) rfl _ _ (b + 1 + 1) _ _ rfl z3 z4) rfl ⟨_, rfl, by rw [HR4.out]; refine ⟨some ⟨gb, go, none⟩, gc, by rw [insM_len, hl]; rfl, (fun a ha _ => by cases ha; show b ≤ gb; omega), ?_⟩; rw [insM_len, hl]; exact z2, z1⟩

end Go.Proofs.Ytcnkpgbmegppbaa.M
