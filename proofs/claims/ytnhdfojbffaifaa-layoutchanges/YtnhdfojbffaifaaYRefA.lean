/-
  Own text: contracts of the reference's Again and Ready.
-/
import Derived.Test.YtnhdfojbffaifaaYRefCut
namespace Go.Proofs.Ytnhdfojbffaifaa.M
open Go.ChangeShapes Go.WideShapes Go.ChangeAt Go.RowKit

/-- A chain in the making, in box x: its epoch, and a slice of the call's own that holds members. -/
structure Ob (W : World) (x : Nat) (e : Int) (v : Value) (M : List Mb) : Prop where
  c0 : W.cell? ⟨x, 0, none⟩ = some (.int .i64 e)
  c1 : W.cell? ⟨x, 1, none⟩ = some v
  fz : W.frozen? ⟨x, 1, none⟩ = false
  ow : OwM W (x + 1) v M

theorem Ob.lt {W : World} {x : Nat} {e : Int} {v : Value} {M : List Mb} (h : Ob W x e v M) : x < W.heap.size := World.block_lt_of_cell? _ _ h.c0

theorem Ob.below {W W' : World} {x : Nat} {e : Int} {v : Value} {M : List Mb} (h : Ob W x e v M) (hb : Below W.heap.size W W') : Ob W' x e v M :=
  ⟨(hb.cell (p := ⟨x, 0, none⟩) h.lt).trans h.c0, (hb.cell (p := ⟨x, 1, none⟩) h.lt).trans h.c1, (hb.frozen (p := ⟨x, 1, none⟩) h.lt).trans h.fz, h.ow.below hb⟩

theorem OwM.set {W : World} {B x : Nat} {v u : Value} {M : List Mb} (h : OwM W B v M) (hx : x < B) (j : Nat) : OwM (W.setCell ⟨x, j, none⟩ u) B v M := by
  refine ⟨h.1, ?_⟩
  rcases h.2 with h2 | ⟨g, cap, cur, hv, hg, hh, r⟩
  · exact Or.inl h2
  · refine Or.inr ⟨g, cap, cur, hv, hg, ?_, r⟩
    rw [← hh]
    simp only [World.setCell, Array.getElem?_modify]
    rw [if_neg (by omega)]

theorem Ob.app {W w' : World} {x : Nat} {e : Int} {v v' : Value} {M M' : List Mb} (h : Ob W x e v M) (hb : Below (x + 1) W w') (ho : OwM w' (x + 1) v' M') : Ob (w'.setCell ⟨x, 1, none⟩ v') x e v' M' := by
  have k0 := (hb.cell (p := ⟨x, 0, none⟩) (Nat.lt_succ_self x)).trans h.c0
  have k1 := (hb.cell (p := ⟨x, 1, none⟩) (Nat.lt_succ_self x)).trans h.c1
  have kf := (hb.frozen (p := ⟨x, 1, none⟩) (Nat.lt_succ_self x)).trans h.fz
  exact ⟨by rw [World.cell?_setCell_other (h := by simp)]; exact k0, by rw [World.cell?_setCell_same (h := k1)], by rw [World.frozen?_setCell]; exact kf, ho.set (Nat.lt_succ_self x) 1⟩

theorem Ob.new (w : World) (e : Int) : Ob (w.alloc (.cells #[.int .i64 e, .slice none 0 0] 24)) w.heap.size e (.slice none 0 0) [] :=
  ⟨by simp, by simp, by simp, OwM.nil _ _⟩

set_option maxRecDepth 20000 in
set_option maxHeartbeats 2000000 in
theorem rAgain_any (e : Int) (p : Option Addr) (n c : Nat) (ms : List Mb) (node : Int) (w : World) (hr : RdM w p n c ms) (hn : n ≤ 5864062014805) :
    Calls Try.prog 49 #[.agg #[.int .i64 e, .slice p n c], .int .i64 node] w fun r w' => ∃ v, r = .returned v ∧ Told w.heap.size w' v (againR e ms node) ∧ Below w.heap.size w w' := by
  have hF := Gr.new1 w e p n c
  have hb0 : Below w.heap.size w ((w.alloc (.cells #[.int .i64 e, .slice p n c] 24)).alloc (.cells #[.int .i64 0, .slice none 0 0] 24)) := ((Below.refl _ _).alloc (Nat.le_refl _) _).alloc (by simp) _
  have hl := hr.len
  have hr0 := hr.below hb0
  have hC := rCheck_any e p n c ms _ hr0 hn
  unfold chkV at hC
  obtain ⟨i0, hi0, hz0, hz1, hz2⟩ := info_parts infoM
  generalize hw : w.heap.size = b at *
  go_enter Try.func49, Try.ntmps49
  go_wp2_with fail
  generalize ((w.alloc (.cells #[.int .i64 e, .slice p n c] 24)).alloc (.cells #[.int .i64 0, .slice none 0 0] 24)) = w0 at *
  refine hC.mono ?_
  rintro r w1 ⟨rfl, hb1⟩
  have hlt0 := hF.lt
  have hF1 := hF.below hb1
  have hB1 := hb0.trans (hb1.mono (by omega))
  have hr1 := hr0.below hb1
  clear hC
  cases hk : chk e ms with
  | false =>
    have HR : Hid (againR e ms node = .error 80) := by unfold Hid againR; rw [hk]; rfl
    have e0 := hF1.put0 (.int .i64 0) (.slice none 0 0)
    have e1 := hF1.put1 (.int .i64 0) (.slice none 0 0)
    have hbb := Gr.putB hB1 (Nat.le_succ b) (.int .i64 0) (.slice none 0 0)
    obtain ⟨a0, a1, b0, b1, f0, f1, lt, br⟩ := hF1
    clear hF hr hr0 hb0 hb1 hk hr1
    simp only [Bool.false_eq_true, if_false]
    go_wp2_with fail
    exact bodyPost_ret (results_chain (p := 4) (u := 5) rfl _ _ (b + 1) _ _ rfl e0 e1) rfl ⟨_, rfl, by rw [HR.out]; rfl, hbb⟩
  | true =>
    obtain ⟨he1, he2, hn0, hn6⟩ := chk_parts hk
    have hP := rPlace_any e p n c ms node w1 hr1 hn
    have hbd := plc_bounds e ms node
    have HR : Hid (againR e ms node = if decide (0 ≤ plc e ms node) = false then .error 81 else if 1099511627776 ≤ e then .error 5 else .ok (e + 1, ms)) := by unfold Hid againR; rw [hk, has_plc hk]; rfl
    generalize plc e ms node = z at *
    have hk1 := hF1
    obtain ⟨a0, a1, b0, b1, f0, f1, lt, br⟩ := hF1
    clear hF hr hr0 hb0 hb1 hk
    simp only [if_true]
    go_wp2_with fail
    refine hP.mono ?_
    rintro r w2 ⟨rfl, hb2⟩
    have hk2 := hk1.below hb2
    have hB2 := hB1.trans (hb2.mono (by omega))
    have hr2 := hr1.below hb2
    clear a0 a1 b0 b1 f0 f1 hP hr1 hk1
    have hk2' := hk2
    obtain ⟨a0, a1, b0, b1, f0, f1, lt2, br2⟩ := hk2'
    by_cases hz : z < 0
    · have HR2 : Hid (againR e ms node = .error 81) := by unfold Hid; rw [HR.out, decide_eq_false (by omega)]; rfl
      have e0 := hk2.put0 (.int .i64 0) (.slice none 0 0)
      have e1 := hk2.put1 (.int .i64 0) (.slice none 0 0)
      have hbb := Gr.putB hB2 (Nat.le_succ b) (.int .i64 0) (.slice none 0 0)
      clear HR hbd
      go_wp2_with fail
      exact bodyPost_ret (results_chain (p := 4) (u := 5) rfl _ _ (b + 1) _ _ rfl e0 e1) rfl ⟨_, rfl, by rw [HR2.out]; rfl, hbb⟩
    · have HR2 : Hid (againR e ms node = if 1099511627776 ≤ e then .error 5 else .ok (e + 1, ms)) := by unfold Hid; rw [HR.out, decide_eq_true (by omega)]; rfl
      by_cases h40 : e = 1099511627776
      · have HR3 : Hid (againR e ms node = .error 5) := by unfold Hid; rw [HR2.out, if_pos (by omega)]
        have e0 := hk2.put0 (.int .i64 0) (.slice none 0 0)
        have e1 := hk2.put1 (.int .i64 0) (.slice none 0 0)
        have hbb := Gr.putB hB2 (Nat.le_succ b) (.int .i64 0) (.slice none 0 0)
        have h40b : (e == 1099511627776) = true := by simp [h40]
        clear HR HR2 hbd
        go_wp2_with fail
        exact bodyPost_ret (results_chain (p := 4) (u := 5) rfl _ _ (b + 1) _ _ rfl e0 e1) rfl ⟨_, rfl, by rw [HR3.out]; rfl, hbb⟩
      · have HR3 : Hid (againR e ms node = .ok (e + 1, ms)) := by unfold Hid; rw [HR2.out, if_neg (by omega)]
        have h40b : (e == 1099511627776) = false := by simp [h40]
        have hwe : IntKind.i64.wrap (e + 1) = e + 1 := by rw [IntKind.wrap_i64]; omega
        have hb3 : Below w2.heap.size w2 (w2.alloc (.cells #[.int .i64 (e + 1), .slice none 0 0] 24)) := (Below.refl _ _).alloc (Nat.le_refl _) _
        have hO := Ob.new w2 (e + 1)
        have hk3 := hk2.below hb3
        have hB3 := hB2.trans (hb3.mono (by omega))
        have hr3 := hr2.below hb3
        have hs3 : (w2.alloc (.cells #[.int .i64 (e + 1), .slice none 0 0] 24)).heap.size = w2.heap.size + 1 := by simp
        obtain ⟨gq, oq, rfl, hcq⟩ := hr3.flat (by omega)
        have hnth := hr3.nth
        have hzd : decide (z < 0) = false := decide_eq_false hz
        clear HR HR2 hbd
        have hk3' := hk3
        obtain ⟨d0, d1, g0, g1, k0, k1, lt3, br3⟩ := hk3'
        go_wp2_with (at_builtin; refine wpList_append_own _ rfl (.tmp 25) (.tmp 27) 22 rfl (w2.heap.size + 1) 42 i0 (.agg #[.int .i64 0, .int .i64 0, .bool false]) 3 24 Try.underlying22 hi0 hz0 hz1 hz2 rfl (by decide) _ 0 [] rfl (World.ownsRow_nil _ _ _ _) ⟨gq, oq, none⟩ n c (cellsM ms n) rfl (by simp [cellsM]) hnth cellsM_one (by unfold maxLen; omega) (by omega) (by simp) ?_)
        intro v' w' h1 h2 _
        try rw [List.nil_append] at h1
        try rw [Nat.zero_add] at h1
        obtain ⟨g, N, rfl, hg, hR⟩ := Row.of_owns h1 hl (by omega)
        have hb4 : Below (w2.heap.size + 1) (w2.alloc (.cells #[.int .i64 (e + 1), .slice none 0 0] 24)) w' := (Below.refl _ _).grown h2 (by simp) fun r hr => by cases hr
        have hO2 : OwM w' (w2.heap.size + 1) (.slice (some ⟨g, 0, none⟩) n N) ms := by unfold OwM; rw [hl]; exact h1
        have hO4 := hO.app hb4 hO2
        have hk4 := (hk3.low hb4 (by omega)).far (x := w2.heap.size) (j := 1) (by omega) (by omega) (.slice (some ⟨g, 0, none⟩) n N)
        have hB4 : Below b w (w'.setCell ⟨w2.heap.size, 1, none⟩ (.slice (some ⟨g, 0, none⟩) n N)) := (hB3.trans (hb4.mono (by omega))).setCell (by show b ≤ w2.heap.size; omega) _
        have x0 := (hb4.cell (p := ⟨w2.heap.size, 0, none⟩) (Nat.lt_succ_self _)).trans hO.c0
        have x1 := (hb4.cell (p := ⟨w2.heap.size, 1, none⟩) (Nat.lt_succ_self _)).trans hO.c1
        have xf := (hb4.frozen (p := ⟨w2.heap.size, 1, none⟩) (Nat.lt_succ_self _)).trans hO.fz
        have hrd := hR.rd
        rw [hl] at hrd
        have hr4 := hrd.set1 (b := w2.heap.size) (j := 1) (.slice (some ⟨g, 0, none⟩) n N) (fun a ha _ => by cases ha; show g ≠ w2.heap.size; omega)
        clear a0 a1 b0 b1 f0 f1 d0 d1 g0 g1 k0 k1 h1 h2 hR hO hO2 hrd hnth hcq
        have hk4' := hk4
        obtain ⟨a0, a1, b0, b1, f0, f1, lt4, br4⟩ := hk4'
        obtain ⟨y0, y1, yf, _⟩ := hO4
        go_wp2_with fail
        generalize (w'.setCell ⟨w2.heap.size, 1, none⟩ (.slice (some ⟨g, 0, none⟩) n N)) = W5 at *
        exact bodyPost_ret (results_chain (p := 4) (u := 5) rfl _ _ (b + 1) _ _ rfl (hk4.put0 _ _) (hk4.put1 _ _)) rfl ⟨_, rfl, by
          rw [HR3.out]
          refine ⟨some ⟨g, 0, none⟩, N, by rw [hl]; rfl, (fun a ha _ => by cases ha; show b ≤ g; omega), ?_⟩
          rw [hl]
          exact hr4.put _ _ (fun a ha _ => by cases ha; show g ≠ b + 1; omega), Gr.putB hB4 (Nat.le_succ b) _ _⟩

end Go.Proofs.Ytnhdfojbffaifaa.M
