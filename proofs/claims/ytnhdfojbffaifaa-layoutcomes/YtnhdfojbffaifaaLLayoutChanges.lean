/-
  Own text: the walk of the law LayoutChanges.
-/
import Derived.Test.YtnhdfojbffaifaaYDoes
namespace Go.Proofs.Ytnhdfojbffaifaa.M
open Go.ChangeShapes Go.WideShapes Go.ChangeAt Go.RowKit

/-- The parts of an answer. -/
def CRe : CR → Int
  | .error _ => 0
  | .ok (e, _) => e
def CRm : CR → List Mb
  | .error _ => []
  | .ok (_, ms) => ms
def CRk : CR → Int
  | .error k => k
  | .ok _ => 0

theorem Told.rd {B : Nat} {w : World} {v : Value} {R : CR} (h : Told B w v R) : ∃ q c, v = .tuple #[.agg #[.int .i64 (CRe R), .slice q (CRm R).length c], .int .i64 (CRk R)] ∧ RdM w q (CRm R).length c (CRm R) := by
  match R, h with
  | .error k, h => exact ⟨none, 0, h, rfl, Nat.le_refl _, fun _ => rfl, fun h => absurd h (Nat.lt_irrefl _)⟩
  | .ok (e, ms), ⟨q, c, h1, _, h2⟩ => exact ⟨q, c, h1, h2⟩

theorem cutR_len (pr : Mb → Bool) (e : Int) (ms : List Mb) : (CRm (cutR pr e ms)).length ≤ ms.length + 1 := by
  unfold cutR
  have h1 : (ms.filter (fun m => !pr m)).length ≤ ms.length := List.length_filter_le _ _
  repeat' split
  all_goals simp only [CRm, List.length_nil, List.length_drop]
  all_goals omega

theorem dR_len (op nd st : Int) (fr : Bool) (e : Int) (ms : List Mb) : (CRm (dR op nd st fr e ms)).length ≤ ms.length + 1 := by
  unfold dR
  split
  · exact cutR_len _ _ _
  split
  · exact cutR_len _ _ _
  split
  · unfold joinR
    repeat' split
    all_goals simp only [CRm, List.length_nil, insM_len]
    all_goals omega
  split
  · unfold againR
    repeat' split
    all_goals simp only [CRm, List.length_nil]
    all_goals omega
  · unfold readyR
    repeat' split
    all_goals simp only [CRm, List.length_nil, List.length_set]
    all_goals omega

theorem two0 {W : World} {x : Nat} {a u v : Value} (h : W.cell? ⟨x, 0, none⟩ = some a) : ((W.setCell ⟨x, 0, none⟩ u).setCell ⟨x, 1, none⟩ v).cell? ⟨x, 0, none⟩ = some u := by
  rw [World.cell?_setCell_other (h := by simp), World.cell?_setCell_same (h := h)]

theorem two1 {W : World} {x : Nat} {a u v : Value} (h : W.cell? ⟨x, 1, none⟩ = some a) : ((W.setCell ⟨x, 0, none⟩ u).setCell ⟨x, 1, none⟩ v).cell? ⟨x, 1, none⟩ = some v := by
  rw [World.cell?_setCell_same (h := by rw [World.cell?_setCell_other (h := by simp)]; exact h)]

/-- What lies in the law's boxes. -/
structure Kp (W : World) (b x : Nat) (e op nd st : Int) (fr : Bool) (p : Option Addr) (n c : Nat) (q : Option Addr) (d : Nat) (ms : List Mb) : Prop where
  a0 : W.cell? ⟨b, 0, none⟩ = some (.int .i64 e)
  a1 : W.cell? ⟨b, 1, none⟩ = some (.slice p n c)
  d0 : W.cell? ⟨b + 1, 0, none⟩ = some (.int .i64 op)
  d1 : W.cell? ⟨b + 1, 1, none⟩ = some (.int .i64 nd)
  d2 : W.cell? ⟨b + 1, 2, none⟩ = some (.int .i64 st)
  d3 : W.cell? ⟨b + 1, 3, none⟩ = some (.bool fr)
  z0 : W.cell? ⟨x, 0, none⟩ = some (.int .i64 e)
  z1 : W.cell? ⟨x, 1, none⟩ = some (.slice q n d)
  rp : RdM W p n c ms
  rq : RdM W q n d ms

theorem cell_below {W W' : World} {p : Addr} {v : Value} (hb : Below W.heap.size W W') (h : W.cell? p = some v) : W'.cell? p = some v := (hb.cell (World.block_lt_of_cell? _ _ h)).trans h

theorem Kp.below {W W' : World} {b x : Nat} {e op nd st : Int} {fr : Bool} {p : Option Addr} {n c : Nat} {q : Option Addr} {d : Nat} {ms : List Mb} (h : Kp W b x e op nd st fr p n c q d ms) (hb : Below W.heap.size W W') : Kp W' b x e op nd st fr p n c q d ms :=
  ⟨cell_below hb h.a0, cell_below hb h.a1, cell_below hb h.d0, cell_below hb h.d1, cell_below hb h.d2, cell_below hb h.d3, cell_below hb h.z0, cell_below hb h.z1, h.rp.below hb, h.rq.below hb⟩

/-- .. and an empty box stands there. -/
def Bx (w : World) (x : Nat) (W : World) : Prop := Bl w W ∧ W.heap[x]? = some (.cells #[.int .i64 0, .slice none 0 0] 24)

theorem Bl.out {w W : World} (h : Bl w W) : Below w.heap.size w W := h

theorem Bx.stays (w : World) (x : Nat) : Stays (Bx w x) := fun W W' h hb => ⟨Bl.stays w W W' h.1 hb, (hb.block x (Array.getElem?_eq_some_iff.1 h.2).1).trans h.2⟩

set_option linter.unusedSimpArgs false in
set_option maxRecDepth 20000 in
set_option maxHeartbeats 4000000 in
theorem walk_LayoutChanges (w : World) (e : Int) (p : Option Addr) (n c : Nat) (ms : List Mb) (hr : RdM w p n c ms) (op nd st : Int) (fr : Bool) :
    Calls Try.prog 6 #[.agg #[.int .i64 e, .slice p n c], .agg #[.int .i64 op, .int .i64 nd, .int .i64 st, .bool fr]] w fun r w' => r = .returned (.bool true) ∧ Below w.heap.size w w' := by
  have hb0 : Below w.heap.size w ((w.alloc (.cells #[.int .i64 e, .slice p n c] 24)).alloc (.cells #[.int .i64 op, .int .i64 nd, .int .i64 st, .bool fr] 39)) := ((Below.refl _ _).alloc (Nat.le_refl _) _).alloc (by simp) _
  have a0 : ((w.alloc (.cells #[.int .i64 e, .slice p n c] 24)).alloc (.cells #[.int .i64 op, .int .i64 nd, .int .i64 st, .bool fr] 39)).cell? ⟨w.heap.size, 0, none⟩ = some (.int .i64 e) := by simp
  have a1 : ((w.alloc (.cells #[.int .i64 e, .slice p n c] 24)).alloc (.cells #[.int .i64 op, .int .i64 nd, .int .i64 st, .bool fr] 39)).cell? ⟨w.heap.size, 1, none⟩ = some (.slice p n c) := by simp
  have d0 : ((w.alloc (.cells #[.int .i64 e, .slice p n c] 24)).alloc (.cells #[.int .i64 op, .int .i64 nd, .int .i64 st, .bool fr] 39)).cell? ⟨w.heap.size + 1, 0, none⟩ = some (.int .i64 op) := by simp
  have d1 : ((w.alloc (.cells #[.int .i64 e, .slice p n c] 24)).alloc (.cells #[.int .i64 op, .int .i64 nd, .int .i64 st, .bool fr] 39)).cell? ⟨w.heap.size + 1, 1, none⟩ = some (.int .i64 nd) := by simp
  have d2 : ((w.alloc (.cells #[.int .i64 e, .slice p n c] 24)).alloc (.cells #[.int .i64 op, .int .i64 nd, .int .i64 st, .bool fr] 39)).cell? ⟨w.heap.size + 1, 2, none⟩ = some (.int .i64 st) := by simp
  have d3 : ((w.alloc (.cells #[.int .i64 e, .slice p n c] 24)).alloc (.cells #[.int .i64 op, .int .i64 nd, .int .i64 st, .bool fr] 39)).cell? ⟨w.heap.size + 1, 3, none⟩ = some (.bool fr) := by simp
  have hs0 : ((w.alloc (.cells #[.int .i64 e, .slice p n c] 24)).alloc (.cells #[.int .i64 op, .int .i64 nd, .int .i64 st, .bool fr] 39)).heap.size = w.heap.size + 1 + 1 := by simp
  by_cases hn : 60 < n
  · have hni : (60 : Int) < (n : Int) := by omega
    have hA := fun W => awake_any W
    clear hr
    go_enter Try.func6, Try.ntmps6
    go_wp2_with fail
    refine (hA _).mono ?_
    rintro r w1 ⟨rfl, hb1⟩
    go_wp2_with fail
    go_ret
    exact ⟨rfl, hb0.trans (hb1.mono hb0.size)⟩
  · have hni : ¬ (60 : Int) < (n : Int) := by omega
    have hr0 := hr.below hb0
    have hl := hr.len
    have hlR := dR_len op nd st fr e ms
    have hD := fun W q d hq => does_any op nd st fr e q n d ms W hq (by omega)
    have hA := fun W hq => also_any op nd st fr e p n c ms W hq (by omega)
    generalize dR op nd st fr e ms = R at *
    clear hr
    generalize hw : w.heap.size = b at *
    go_enter Try.func6, Try.ntmps6
    go_wp2_with fail
    generalize ((w.alloc (.cells #[.int .i64 e, .slice p n c] 24)).alloc (.cells #[.int .i64 op, .int .i64 nd, .int .i64 st, .bool fr] 39)) = w0 at *
    have hS0 : Bl w0 w0.drew := (Below.refl _ _).drew
    refine wp_region_det [0, 1, 2, 3, 5] (Bl w0) (Bl w0) (by kernel_rfl) hS0 ?_
    refine wpDet_take ?vA0 (Bl.stays w0) (fun _ h => h) (i := 0) rfl (by kernel_rfl) (by kernel_rfl) (by kernel_rfl) (by kernel_rfl) (fun _ _ _ h => h) (Gives.value (by rfl) ?yA0) ?rA0
    case yA0 => (intro w' hSw; have za0 := cell_below hSw a0; have za1 := cell_below hSw a1; go_simp; try with_reducible rfl)
    (try simp only [Act.put, List.getElem_toArray, List.getElem_cons_zero, List.getElem_cons_succ, List.setIfInBounds_toArray, List.set_cons_zero, List.set_cons_succ])
    refine wpDet_take ?vA1 (Bl.stays w0) (fun _ h => h) (i := 1) rfl (by kernel_rfl) (by kernel_rfl) (by kernel_rfl) (by kernel_rfl) (fun _ _ _ h => h) (Gives.value (by rfl) ?yA1) ?rA1
    case yA1 => (intro w' hSw; have za0 := cell_below hSw a0; have za1 := cell_below hSw a1; go_simp; try with_reducible rfl)
    (try simp only [Act.put, List.getElem_toArray, List.getElem_cons_zero, List.getElem_cons_succ, List.setIfInBounds_toArray, List.set_cons_zero, List.set_cons_succ])
    refine wpDet_take ?vA2 (Bl.stays w0) (fun _ h => h) (i := 2) rfl (by kernel_rfl) (by kernel_rfl) (by kernel_rfl) (by kernel_rfl) (fun _ _ _ h => h) (Gives.value (by rfl) ?yA2) ?rA2
    case yA2 => (intro w' hSw; have za0 := cell_below hSw a0; have za1 := cell_below hSw a1; go_simp; try with_reducible rfl)
    (try simp only [Act.put, List.getElem_toArray, List.getElem_cons_zero, List.getElem_cons_succ, List.setIfInBounds_toArray, List.set_cons_zero, List.set_cons_succ])
    refine wpDet_take ?vA3 (Bl.stays w0) (fun _ h => h) (i := 3) rfl (by kernel_rfl) (by kernel_rfl) (by kernel_rfl) (by kernel_rfl) (fun _ _ _ h => h) (Gives.value (by rfl) ?yA3) ?rA3
    case yA3 => (intro w' hSw; have za0 := cell_below hSw a0; have za1 := cell_below hSw a1; go_simp; try with_reducible rfl)
    (try simp only [Act.put, List.getElem_toArray, List.getElem_cons_zero, List.getElem_cons_succ, List.setIfInBounds_toArray, List.set_cons_zero, List.set_cons_succ])
    refine wpDet_ready (rs := [4, 6]) (by kernel_rfl) (by simp) (AllDet.cons rfl (fun V hV K hK => ?_) (AllDet.cons rfl (fun V hV K hK => ?_) AllDet.nil))
    · rw [if_pos (by rfl)]
      have hCv := cloneM_any p n c ms V (hr0.below hV) (by omega)
      refine wp_enterE 25 #[.slice p n c] (by first | (go_simp; done) | (go_simp; rfl)) (fun v W => Copy W V.heap.size n ms v ∧ Below V.heap.size V W) (hCv.mono fun e' w' hh => by obtain ⟨v, h1, h2, h3⟩ := hh; exact ⟨v, h1, h2, h3⟩) ?_
      rintro v7 V7 ⟨hcp, hb7⟩
      obtain ⟨q, d, rfl, hq, hrq⟩ := hcp.tell hl
      refine hK.out (Br w0 q n d ms) _ _ (Br.stays w0 _ _ _ _) (fun _ _ h => h.1) ⟨Bl.stays w0 V V7 hV hb7, hrq⟩ ?_
      have hqb : ∀ a, q = some a → 0 < n → a.block < V7.heap.size := fun a ha h0 => by
        obtain ⟨g, o, e1, hc⟩ := hrq.cells h0
        rw [ha] at e1
        cases e1
        exact World.block_lt_of_cell? _ _ (hc 0 h0).1
      clear hK K hCv hcp hb7 hV hrq hqb
      (try simp only [Act.put, List.getElem_toArray, List.getElem_cons_zero, List.getElem_cons_succ, List.setIfInBounds_toArray, List.set_cons_zero, List.set_cons_succ])
      refine wpDet_take ?vB5 (Br.stays w0 _ _ _ _) (fun _ h => h.1) (i := 5) rfl (by kernel_rfl) (by kernel_rfl) (by kernel_rfl) (by kernel_rfl) (fun _ _ _ h => h) (Gives.value (by rfl) ?yB5) ?rB5
      case yB5 => (intro w' hSw; go_simp; try with_reducible rfl)
      (try simp only [Act.put, List.getElem_toArray, List.getElem_cons_zero, List.getElem_cons_succ, List.setIfInBounds_toArray, List.set_cons_zero, List.set_cons_succ])
      refine wpDet_ready (rs := [6]) (by kernel_rfl) (by simp) (AllDet.cons rfl (fun V hV K hK => ?_) AllDet.nil)
      rw [if_pos (by rfl)]
      refine wp_value (.pointer (some ⟨V.heap.size, 0, none⟩)) (V.alloc (.cells #[.int .i64 0, .slice none 0 0] 24)) (by first | (go_simp; done) | (go_simp; rfl)) ?_
      have hqx : ∀ a, q = some a → 0 < n → a.block ≠ V.heap.size := fun a ha h0 => by
        obtain ⟨g, o, e1, hc⟩ := hV.2.cells h0
        rw [ha] at e1
        cases e1
        exact Nat.ne_of_lt (World.block_lt_of_cell? _ _ (hc 0 h0).1)
      have hxl : w0.heap.size ≤ V.heap.size := (Bl.out hV.1).size
      refine hK.out (fun W => Br w0 q n d ms W ∧ Bx w0 V.heap.size W) _ _ ((Br.stays w0 _ _ _ _).and (Bx.stays w0 _)) (fun _ _ h => h.1.1) ⟨Br.stays w0 _ _ _ _ V _ hV ((Below.refl _ _).alloc (Nat.le_refl _) _), Bl.stays w0 V _ hV.1 ((Below.refl _ _).alloc (Nat.le_refl _) _), heap_alloc_new _ _⟩ ?_
      clear hK K hV
      generalize V.heap.size = x at *
      (try simp only [Act.put, List.getElem_toArray, List.getElem_cons_zero, List.getElem_cons_succ, List.setIfInBounds_toArray, List.set_cons_zero, List.set_cons_succ])
      refine wpDet_ready (rs := [7]) (by kernel_rfl) (by simp) (AllDet.cons rfl (fun V hV K hK => ?_) AllDet.nil)
      rw [if_pos (by rfl)]
      have y0 := cell_row hV.2.2 (j := 0) (v := .int .i64 0) rfl
      have y1 := cell_row hV.2.2 (j := 1) (v := .slice none 0 0) rfl
      have g0 := frozen_of_row V x 0 _ _ hV.2.2
      have g1 := frozen_of_row V x 1 _ _ hV.2.2
      have hth : V.there x 0 2 := fun j hj => by rw [Nat.zero_add]; match j, hj with | 0, _ => exact ⟨by rw [y0]; rfl, g0⟩ | 1, _ => exact ⟨by rw [y1]; rfl, g1⟩
      refine wp_store_mid 24 _ _ rfl x 0 #[.int .i64 e, .slice q n d] rfl rfl hth sizeC (one2 _ _ _ _) ?_
      have hz : Bz w0.heap.size w0 x e q n d ms ((V.setCell ⟨x, 0, none⟩ (.int .i64 e)).setCell ⟨x, 1, none⟩ (.slice q n d)) := ⟨Gr.putB (Bl.out hV.1.1) hxl _ _, hV.1.2.put _ _ (fun a ha h0 => hqx a ha h0), two0 y0, two1 y1, by have := (Bl.out hV.1.1).size; simp; omega⟩
      refine hK.out (Bz w0.heap.size w0 x e q n d ms) _ _ (Bz.stays _ _ _ _ _ _ _ _) (no_lean (by kernel_rfl)) hz ?_
      clear hK K hV hth hz y0 y1 g0 g1
      (try simp only [Act.put, List.getElem_toArray, List.getElem_cons_zero, List.getElem_cons_succ, List.setIfInBounds_toArray, List.set_cons_zero, List.set_cons_succ])
      refine wpDet_done (by kernel_rfl) (fun W3 hV => ?_) _
      obtain ⟨hb3, rq, z0, z1, hs3⟩ := hV
      have hK3 : Kp W3 b x e op nd st fr p n c q d ms := ⟨cell_below hb3 a0, cell_below hb3 a1, cell_below hb3 d0, cell_below hb3 d1, cell_below hb3 d2, cell_below hb3 d3, z0, z1, hr0.below hb3, rq⟩
      have hB3 := hb0.trans (hb3.mono (by omega))
      have hX := hD W3 q d rq
      clear hD a0 a1 d0 d1 d2 d3 z0 z1 rq hr0
      have hK3' := hK3
      obtain ⟨a0, a1, d0, d1, d2, d3, z0, z1, _, _⟩ := hK3'
      go_wp2_with fail
      refine hX.mono ?_
      rintro r W4 ⟨v, rfl, hT, hb4⟩
      obtain ⟨q1, c1, rfl, hr1⟩ := hT.rd
      have hK4 := hK3.below hb4
      have hB4 := hB3.trans (hb4.mono (hw ▸ hB3.size))
      clear hX hT a0 a1 d0 d1 d2 d3 z0 z1 hK3 hb3 hb4
      have hbA : Below W4.heap.size W4 (W4.alloc (.cells #[.int .i64 (CRe R), .slice q1 (CRm R).length c1] 24)) := (Below.refl _ _).alloc (Nat.le_refl _) _
      have hK5 := hK4.below hbA
      have hr5 := hr1.below hbA
      have hB5 := hB4.trans (hbA.mono (hw ▸ hB4.size))
      have m0 : (W4.alloc (.cells #[.int .i64 (CRe R), .slice q1 (CRm R).length c1] 24)).cell? ⟨W4.heap.size, 0, none⟩ = some (.int .i64 (CRe R)) := by simp
      have m1 : (W4.alloc (.cells #[.int .i64 (CRe R), .slice q1 (CRm R).length c1] 24)).cell? ⟨W4.heap.size, 1, none⟩ = some (.slice q1 (CRm R).length c1) := by simp
      have hY := hA _ hK5.rp
      have hK5' := hK5
      obtain ⟨a0, a1, d0, d1, d2, d3, z0, z1, _, _⟩ := hK5'
      go_wp2_with fail
      generalize (W4.alloc (.cells #[.int .i64 (CRe R), .slice q1 (CRm R).length c1] 24)) = W5 at *
      refine hY.mono ?_
      rintro r W6 ⟨v, rfl, hT, hb6⟩
      obtain ⟨q2, c2, rfl, hr2⟩ := hT.rd
      have hK6 := hK5.below hb6
      have hB6 := hB5.trans (hb6.mono (hw ▸ hB5.size))
      replace m0 := cell_below hb6 m0
      replace m1 := cell_below hb6 m1
      have hr6 := hr5.below hb6
      clear hY hT hA a0 a1 d0 d1 d2 d3 z0 z1 hK5 hK4 hb6 hbA hr5 hr1
      have hbC : Below W6.heap.size W6 (W6.alloc (.cells #[.int .i64 (CRe R), .slice q2 (CRm R).length c2] 24)) := (Below.refl _ _).alloc (Nat.le_refl _) _
      have hK7 := hK6.below hbC
      have hr7 := hr6.below hbC
      have hr8 := hr2.below hbC
      have hB7 := hB6.trans (hbC.mono (hw ▸ hB6.size))
      have k0 := cell_below hbC m0
      have k1 := cell_below hbC m1
      have l0 : (W6.alloc (.cells #[.int .i64 (CRe R), .slice q2 (CRm R).length c2] 24)).cell? ⟨W6.heap.size, 0, none⟩ = some (.int .i64 (CRe R)) := by simp
      have l1 : (W6.alloc (.cells #[.int .i64 (CRe R), .slice q2 (CRm R).length c2] 24)).cell? ⟨W6.heap.size, 1, none⟩ = some (.slice q2 (CRm R).length c2) := by simp
      have hS := rSame_any (CRe R) (CRe R) q1 q2 (CRm R).length (CRm R).length c1 c2 (CRm R) (CRm R) _ hr7 hr8 (by omega) (by omega)
      rw [show (CRe R == CRe R && eqMs (CRm R) (CRm R)) = true by simp [eqMs_self]] at hS
      have hkk : (CRk R == CRk R) = true := by simp
      have hK7' := hK7
      obtain ⟨a0, a1, d0, d1, d2, d3, z0, z1, _, _⟩ := hK7'
      go_wp2_with fail
      generalize (W6.alloc (.cells #[.int .i64 (CRe R), .slice q2 (CRm R).length c2] 24)) = W7 at *
      refine hS.mono ?_
      rintro r W8 ⟨rfl, hb8⟩
      have hK8 := hK7.below hb8
      have hB8 := hB7.trans (hb8.mono (hw ▸ hB7.size))
      have hS2 := rSame_any e e q p n n d c ms ms _ hK8.rq hK8.rp (by omega) (by omega)
      rw [show (e == e && eqMs ms ms) = true by simp [eqMs_self]] at hS2
      clear hS a0 a1 d0 d1 d2 d3 z0 z1 hK6 hK7 hb8 hbC hr7 hr8 hr6 hr2 k0 k1 l0 l1 m0 m1
      obtain ⟨a0, a1, d0, d1, d2, d3, z0, z1, _, _⟩ := hK8
      go_wp2_with fail
      refine hS2.mono ?_
      rintro r W9 ⟨rfl, hb9⟩
      have hB9 := hB8.trans (hb9.mono (hw ▸ hB8.size))
      have hW := awake_any W9
      go_wp2_with fail
      refine hW.mono ?_
      rintro r W10 ⟨rfl, hb10⟩
      go_wp2_with fail
      go_ret
      exact ⟨rfl, hB9.trans (hb10.mono (hw ▸ hB9.size))⟩
    · rw [if_pos (by rfl)]
      refine wp_value (.pointer (some ⟨V.heap.size, 0, none⟩)) (V.alloc (.cells #[.int .i64 0, .slice none 0 0] 24)) (by first | (go_simp; done) | (go_simp; rfl)) ?_
      have hxl : w0.heap.size ≤ V.heap.size := (Bl.out hV).size
      refine hK.out (Bx w0 V.heap.size) _ _ (Bx.stays w0 _) (fun _ _ h => h.1) ⟨Bl.stays w0 V _ hV ((Below.refl _ _).alloc (Nat.le_refl _) _), heap_alloc_new _ _⟩ ?_
      clear hK K hV
      generalize V.heap.size = x at *
      (try simp only [Act.put, List.getElem_toArray, List.getElem_cons_zero, List.getElem_cons_succ, List.setIfInBounds_toArray, List.set_cons_zero, List.set_cons_succ])
      refine wpDet_ready (rs := [4]) (by kernel_rfl) (by simp) (AllDet.cons rfl (fun V hV K hK => ?_) AllDet.nil)
      rw [if_pos (by rfl)]
      have hCv := cloneM_any p n c ms V (hr0.below hV.1) (by omega)
      refine wp_enterE 25 #[.slice p n c] (by first | (go_simp; done) | (go_simp; rfl)) (fun v W => Copy W V.heap.size n ms v ∧ Below V.heap.size V W) (hCv.mono fun e' w' hh => by obtain ⟨v, h1, h2, h3⟩ := hh; exact ⟨v, h1, h2, h3⟩) ?_
      rintro v7 V7 ⟨hcp, hb7⟩
      obtain ⟨q, d, rfl, hq, hrq⟩ := hcp.tell hl
      have hqx : ∀ a, q = some a → 0 < n → a.block ≠ x := fun a ha h0 => Nat.ne_of_gt (Nat.lt_of_lt_of_le (Array.getElem?_eq_some_iff.1 hV.2).1 (hq a ha h0))
      refine hK.out (fun W => Br w0 q n d ms W ∧ Bx w0 x W) _ _ ((Br.stays w0 _ _ _ _).and (Bx.stays w0 _)) (fun _ _ h => h.1.1) ⟨⟨Bl.stays w0 V V7 hV.1 hb7, hrq⟩, Bx.stays w0 x V V7 hV hb7⟩ ?_
      clear hK K hCv hcp hb7 hV hrq
      (try simp only [Act.put, List.getElem_toArray, List.getElem_cons_zero, List.getElem_cons_succ, List.setIfInBounds_toArray, List.set_cons_zero, List.set_cons_succ])
      refine wpDet_take ?vC5 ((Br.stays w0 _ _ _ _).and (Bx.stays w0 _)) (fun _ h => h.1.1) (i := 5) rfl (by kernel_rfl) (by kernel_rfl) (by kernel_rfl) (by kernel_rfl) (fun _ _ _ h => h) (Gives.value (by rfl) ?yC5) ?rC5
      case yC5 => (intro w' hSw; go_simp; try with_reducible rfl)
      (try simp only [Act.put, List.getElem_toArray, List.getElem_cons_zero, List.getElem_cons_succ, List.setIfInBounds_toArray, List.set_cons_zero, List.set_cons_succ])
      refine wpDet_ready (rs := [7]) (by kernel_rfl) (by simp) (AllDet.cons rfl (fun V hV K hK => ?_) AllDet.nil)
      rw [if_pos (by rfl)]
      have y0 := cell_row hV.2.2 (j := 0) (v := .int .i64 0) rfl
      have y1 := cell_row hV.2.2 (j := 1) (v := .slice none 0 0) rfl
      have g0 := frozen_of_row V x 0 _ _ hV.2.2
      have g1 := frozen_of_row V x 1 _ _ hV.2.2
      have hth : V.there x 0 2 := fun j hj => by rw [Nat.zero_add]; match j, hj with | 0, _ => exact ⟨by rw [y0]; rfl, g0⟩ | 1, _ => exact ⟨by rw [y1]; rfl, g1⟩
      refine wp_store_mid 24 _ _ rfl x 0 #[.int .i64 e, .slice q n d] rfl rfl hth sizeC (one2 _ _ _ _) ?_
      have hz : Bz w0.heap.size w0 x e q n d ms ((V.setCell ⟨x, 0, none⟩ (.int .i64 e)).setCell ⟨x, 1, none⟩ (.slice q n d)) := ⟨Gr.putB (Bl.out hV.1.1) hxl _ _, hV.1.2.put _ _ (fun a ha h0 => hqx a ha h0), two0 y0, two1 y1, by have := (Bl.out hV.1.1).size; simp; omega⟩
      refine hK.out (Bz w0.heap.size w0 x e q n d ms) _ _ (Bz.stays _ _ _ _ _ _ _ _) (no_lean (by kernel_rfl)) hz ?_
      clear hK K hV hth hz y0 y1 g0 g1
      (try simp only [Act.put, List.getElem_toArray, List.getElem_cons_zero, List.getElem_cons_succ, List.setIfInBounds_toArray, List.set_cons_zero, List.set_cons_succ])
      refine wpDet_done (by kernel_rfl) (fun W3 hV => ?_) _
      obtain ⟨hb3, rq, z0, z1, hs3⟩ := hV
      have hK3 : Kp W3 b x e op nd st fr p n c q d ms := ⟨cell_below hb3 a0, cell_below hb3 a1, cell_below hb3 d0, cell_below hb3 d1, cell_below hb3 d2, cell_below hb3 d3, z0, z1, hr0.below hb3, rq⟩
      have hB3 := hb0.trans (hb3.mono (by omega))
      have hX := hD W3 q d rq
      clear hD a0 a1 d0 d1 d2 d3 z0 z1 rq hr0
      have hK3' := hK3
      obtain ⟨a0, a1, d0, d1, d2, d3, z0, z1, _, _⟩ := hK3'
      go_wp2_with fail
      refine hX.mono ?_
      rintro r W4 ⟨v, rfl, hT, hb4⟩
      obtain ⟨q1, c1, rfl, hr1⟩ := hT.rd
      have hK4 := hK3.below hb4
      have hB4 := hB3.trans (hb4.mono (hw ▸ hB3.size))
      clear hX hT a0 a1 d0 d1 d2 d3 z0 z1 hK3 hb3 hb4
      have hbA : Below W4.heap.size W4 (W4.alloc (.cells #[.int .i64 (CRe R), .slice q1 (CRm R).length c1] 24)) := (Below.refl _ _).alloc (Nat.le_refl _) _
      have hK5 := hK4.below hbA
      have hr5 := hr1.below hbA
      have hB5 := hB4.trans (hbA.mono (hw ▸ hB4.size))
      have m0 : (W4.alloc (.cells #[.int .i64 (CRe R), .slice q1 (CRm R).length c1] 24)).cell? ⟨W4.heap.size, 0, none⟩ = some (.int .i64 (CRe R)) := by simp
      have m1 : (W4.alloc (.cells #[.int .i64 (CRe R), .slice q1 (CRm R).length c1] 24)).cell? ⟨W4.heap.size, 1, none⟩ = some (.slice q1 (CRm R).length c1) := by simp
      have hY := hA _ hK5.rp
      have hK5' := hK5
      obtain ⟨a0, a1, d0, d1, d2, d3, z0, z1, _, _⟩ := hK5'
      go_wp2_with fail
      generalize (W4.alloc (.cells #[.int .i64 (CRe R), .slice q1 (CRm R).length c1] 24)) = W5 at *
      refine hY.mono ?_
      rintro r W6 ⟨v, rfl, hT, hb6⟩
      obtain ⟨q2, c2, rfl, hr2⟩ := hT.rd
      have hK6 := hK5.below hb6
      have hB6 := hB5.trans (hb6.mono (hw ▸ hB5.size))
      replace m0 := cell_below hb6 m0
      replace m1 := cell_below hb6 m1
      have hr6 := hr5.below hb6
      clear hY hT hA a0 a1 d0 d1 d2 d3 z0 z1 hK5 hK4 hb6 hbA hr5 hr1
      have hbC : Below W6.heap.size W6 (W6.alloc (.cells #[.int .i64 (CRe R), .slice q2 (CRm R).length c2] 24)) := (Below.refl _ _).alloc (Nat.le_refl _) _
      have hK7 := hK6.below hbC
      have hr7 := hr6.below hbC
      have hr8 := hr2.below hbC
      have hB7 := hB6.trans (hbC.mono (hw ▸ hB6.size))
      have k0 := cell_below hbC m0
      have k1 := cell_below hbC m1
      have l0 : (W6.alloc (.cells #[.int .i64 (CRe R), .slice q2 (CRm R).length c2] 24)).cell? ⟨W6.heap.size, 0, none⟩ = some (.int .i64 (CRe R)) := by simp
      have l1 : (W6.alloc (.cells #[.int .i64 (CRe R), .slice q2 (CRm R).length c2] 24)).cell? ⟨W6.heap.size, 1, none⟩ = some (.slice q2 (CRm R).length c2) := by simp
      have hS := rSame_any (CRe R) (CRe R) q1 q2 (CRm R).length (CRm R).length c1 c2 (CRm R) (CRm R) _ hr7 hr8 (by omega) (by omega)
      rw [show (CRe R == CRe R && eqMs (CRm R) (CRm R)) = true by simp [eqMs_self]] at hS
      have hkk : (CRk R == CRk R) = true := by simp
      have hK7' := hK7
      obtain ⟨a0, a1, d0, d1, d2, d3, z0, z1, _, _⟩ := hK7'
      go_wp2_with fail
      generalize (W6.alloc (.cells #[.int .i64 (CRe R), .slice q2 (CRm R).length c2] 24)) = W7 at *
      refine hS.mono ?_
      rintro r W8 ⟨rfl, hb8⟩
      have hK8 := hK7.below hb8
      have hB8 := hB7.trans (hb8.mono (hw ▸ hB7.size))
      have hS2 := rSame_any e e q p n n d c ms ms _ hK8.rq hK8.rp (by omega) (by omega)
      rw [show (e == e && eqMs ms ms) = true by simp [eqMs_self]] at hS2
      clear hS a0 a1 d0 d1 d2 d3 z0 z1 hK6 hK7 hb8 hbC hr7 hr8 hr6 hr2 k0 k1 l0 l1 m0 m1
      obtain ⟨a0, a1, d0, d1, d2, d3, z0, z1, _, _⟩ := hK8
      go_wp2_with fail
      refine hS2.mono ?_
      rintro r W9 ⟨rfl, hb9⟩
      have hB9 := hB8.trans (hb9.mono (hw ▸ hB8.size))
      have hW := awake_any W9
      go_wp2_with fail
      refine hW.mono ?_
      rintro r W10 ⟨rfl, hb10⟩
      go_wp2_with fail
      go_ret
      exact ⟨rfl, hB9.trans (hb10.mono (hw ▸ hB9.size))⟩

end Go.Proofs.Ytnhdfojbffaifaa.M
