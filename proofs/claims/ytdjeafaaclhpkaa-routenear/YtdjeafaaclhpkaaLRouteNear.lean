/-
  Own text: the walk of the statement 'RouteNear'.
-/
import Derived.Test.YtdjeafaaclhpkaaZBoth
import Derived.Test.YtdjeafaaclhpkaaZGiven
import Derived.Test.YtdjeafaaclhpkaaZSame
namespace Go.Proofs.Ytdjeafaaclhpkaa.M
open Go.ChangeShapes Go.WideShapes Go.ChangeAt Go.RowKit

/-- Two boxes of a chain, one of them of cloned members, and ways. -/
structure Kq (W : World) (b x : Nat) (e : Int) (p : Option Addr) (n c : Nat) (q : Option Addr) (d : Nat) (ms : List Mb) (xs : List Int) : Prop where
  a0 : W.cell? ⟨b, 0, none⟩ = some (.int .i64 e)
  a1 : W.cell? ⟨b, 1, none⟩ = some (.slice p n c)
  z0 : W.cell? ⟨x, 0, none⟩ = some (.int .i64 e)
  z1 : W.cell? ⟨x, 1, none⟩ = some (.slice q n d)
  ar : ArrI 24 .i64 W (b + 1) xs
  rp : RdM W p n c ms
  rq : RdM W q n d ms

theorem Kq.below {W W' : World} {b x : Nat} {e : Int} {p : Option Addr} {n c : Nat} {q : Option Addr} {d : Nat} {ms : List Mb} {xs : List Int} (h : Kq W b x e p n c q d ms xs) (hb : Below W.heap.size W W') : Kq W' b x e p n c q d ms xs :=
  ⟨cell_below hb h.a0, cell_below hb h.a1, cell_below hb h.z0, cell_below hb h.z1, h.ar.below hb, h.rp.below hb, h.rq.below hb⟩

theorem Kq.all {W : World} {b x : Nat} {e : Int} {p : Option Addr} {n c : Nat} {q : Option Addr} {d : Nat} {ms : List Mb} {xs : List Int} (h : Kq W b x e p n c q d ms xs) : W.cell? ⟨b, 0, none⟩ = some (.int .i64 e) ∧ W.cell? ⟨b, 1, none⟩ = some (.slice p n c) ∧ W.cell? ⟨x, 0, none⟩ = some (.int .i64 e) ∧ W.cell? ⟨x, 1, none⟩ = some (.slice q n d) ∧ ArrI 24 .i64 W (b + 1) xs ∧ RdM W p n c ms ∧ RdM W q n d ms :=
  ⟨h.a0, h.a1, h.z0, h.z1, h.ar, h.rp, h.rq⟩

set_option linter.unusedSimpArgs false in
set_option maxRecDepth 20000 in
set_option maxHeartbeats 4000000 in
theorem walk_RouteNear (w : World) (e : Int) (p : Option Addr) (n c : Nat) (ms : List Mb) (hr : RdM w p n c ms) (hn : n ≤ 5864062014805) (a0 a1 a2 a3 a4 a5 a6 a7 a8 st : Int) :
    Calls Try.prog 4 #[.agg #[.int .i64 e, .slice p n c], .agg #[.int .i64 a0, .int .i64 a1, .int .i64 a2, .int .i64 a3, .int .i64 a4, .int .i64 a5, .int .i64 a6, .int .i64 a7, .int .i64 a8], .int .i64 st] w fun r w' => r = .returned (.bool true) ∧ Below w.heap.size w w' := by
  have hb0 : Below w.heap.size w ((w.alloc (.cells #[.int .i64 e, .slice p n c] 33)).alloc (.cells #[.int .i64 a0, .int .i64 a1, .int .i64 a2, .int .i64 a3, .int .i64 a4, .int .i64 a5, .int .i64 a6, .int .i64 a7, .int .i64 a8] 24)) := ((Below.refl _ _).alloc (Nat.le_refl _) _).alloc (by simp) _
  have hA : ArrI 24 .i64 ((w.alloc (.cells #[.int .i64 e, .slice p n c] 33)).alloc (.cells #[.int .i64 a0, .int .i64 a1, .int .i64 a2, .int .i64 a3, .int .i64 a4, .int .i64 a5, .int .i64 a6, .int .i64 a7, .int .i64 a8] 24)) (w.heap.size + 1) [a0, a1, a2, a3, a4, a5, a6, a7, a8] := new_at (by simp) (nine_cells (t := 24) (w.alloc (.cells #[.int .i64 e, .slice p n c] 33)) a0 a1 a2 a3 a4 a5 a6 a7 a8)
  have hK : At 33 ((w.alloc (.cells #[.int .i64 e, .slice p n c] 33)).alloc (.cells #[.int .i64 a0, .int .i64 a1, .int .i64 a2, .int .i64 a3, .int .i64 a4, .int .i64 a5, .int .i64 a6, .int .i64 a7, .int .i64 a8] 24)) w.heap.size #[.int .i64 e, .slice p n c] := (At.new 33 w #[.int .i64 e, .slice p n c]).alloc _
  have hl := hr.len
  have hr0 := hr.below hb0
  have hW := fun W => awake_any W
  obtain ⟨m, l, V0, E, hm6, h1, h2, h3, h4⟩ := Near_both e n ms a0 a1 a2 a3 a4 a5 a6 a7 a8 st hl hn
  by_cases hnm : 60 < n
  · have hni : (60 : Int) < (n : Int) := by omega
    clear hr hr0 h1 h2 h3 h4 hA hK
    go_enter Try.func4, Try.ntmps4
    go_wp2_with fail
    refine (hW _).mono ?_
    rintro r w1 ⟨rfl, hb1⟩
    go_wp2_with fail
    go_ret
    exact ⟨rfl, hb0.trans (hb1.mono hb0.size)⟩
  · have hni : ¬ (60 : Int) < (n : Int) := by omega
    clear hr
    go_enter Try.func4, Try.ntmps4
    go_wp2_with fail
    generalize hw0 : ((w.alloc (.cells #[.int .i64 e, .slice p n c] 33)).alloc (.cells #[.int .i64 a0, .int .i64 a1, .int .i64 a2, .int .i64 a3, .int .i64 a4, .int .i64 a5, .int .i64 a6, .int .i64 a7, .int .i64 a8] 24)) = w0 at *
    obtain ⟨k0, k1⟩ := hK.two
    clear hK hw0
    have hS0 : Bl w0 w0.drew := (Below.refl _ _).drew
    refine wp_region_det [0, 1, 2, 3, 5] (Bl w0) (Bl w0) (by kernel_rfl) hS0 ?_
    refine wpDet_take ?vA0 (Bl.stays w0) (fun _ h => h) (i := 0) rfl (by kernel_rfl) (by kernel_rfl) (by kernel_rfl) (by kernel_rfl) (fun _ _ _ h => h) (Gives.value (by rfl) ?yA0) ?rA0
    case yA0 => (intro w' hSw; have za0 := cell_below hSw k0; have za1 := cell_below hSw k1; go_simp; try with_reducible rfl)
    (try simp only [Act.put, List.getElem_toArray, List.getElem_cons_zero, List.getElem_cons_succ, List.setIfInBounds_toArray, List.set_cons_zero, List.set_cons_succ])
    refine wpDet_take ?vA1 (Bl.stays w0) (fun _ h => h) (i := 1) rfl (by kernel_rfl) (by kernel_rfl) (by kernel_rfl) (by kernel_rfl) (fun _ _ _ h => h) (Gives.value (by rfl) ?yA1) ?rA1
    case yA1 => (intro w' hSw; have za0 := cell_below hSw k0; have za1 := cell_below hSw k1; go_simp; try with_reducible rfl)
    (try simp only [Act.put, List.getElem_toArray, List.getElem_cons_zero, List.getElem_cons_succ, List.setIfInBounds_toArray, List.set_cons_zero, List.set_cons_succ])
    refine wpDet_take ?vA2 (Bl.stays w0) (fun _ h => h) (i := 2) rfl (by kernel_rfl) (by kernel_rfl) (by kernel_rfl) (by kernel_rfl) (fun _ _ _ h => h) (Gives.value (by rfl) ?yA2) ?rA2
    case yA2 => (intro w' hSw; have za0 := cell_below hSw k0; have za1 := cell_below hSw k1; go_simp; try with_reducible rfl)
    (try simp only [Act.put, List.getElem_toArray, List.getElem_cons_zero, List.getElem_cons_succ, List.setIfInBounds_toArray, List.set_cons_zero, List.set_cons_succ])
    refine wpDet_take ?vA3 (Bl.stays w0) (fun _ h => h) (i := 3) rfl (by kernel_rfl) (by kernel_rfl) (by kernel_rfl) (by kernel_rfl) (fun _ _ _ h => h) (Gives.value (by rfl) ?yA3) ?rA3
    case yA3 => (intro w' hSw; have za0 := cell_below hSw k0; have za1 := cell_below hSw k1; go_simp; try with_reducible rfl)
    (try simp only [Act.put, List.getElem_toArray, List.getElem_cons_zero, List.getElem_cons_succ, List.setIfInBounds_toArray, List.set_cons_zero, List.set_cons_succ])
    refine wpDet_ready (rs := [4, 6]) (by kernel_rfl) (by simp) (AllDet.cons rfl (fun V hV K hK => ?_) (AllDet.cons rfl (fun V hV K hK => ?_) AllDet.nil))
    · rw [if_pos (by rfl)]
      have hCv := cloneM_any p n c ms V (hr0.below hV) (by omega)
      refine wp_enterE 14 #[.slice p n c] (by first | (go_simp; done) | (go_simp; rfl)) (fun v W => Copy W V.heap.size n ms v ∧ Below V.heap.size V W) (hCv.mono fun e' w' hh => by obtain ⟨v, h1, h2, h3⟩ := hh; exact ⟨v, h1, h2, h3⟩) ?_
      rintro v7 V7 ⟨hcp, hb7⟩
      obtain ⟨q, d, rfl, hq, hrq⟩ := hcp.tell hl
      refine hK.out (Br w0 q n d ms) _ _ (Br.stays w0 _ _ _ _) (fun _ _ h => h.1) ⟨Bl.stays w0 V V7 hV hb7, hrq⟩ ?_
      have hqb : ∀ a, q = some a → 0 < n → a.block < V7.heap.size := fun a ha h0 => by
        obtain ⟨g, o, e1, hc⟩ := hrq.cells h0
        rw [ha] at e1
        cases e1
        exact World.block_lt_of_cell? _ _ (hc 0 h0).1
      clear hK K hCv hcp hb7 hV hrq hqb
      (try simp only [Act.put, List.getElem_toArray, List.getElem_cons_zero, List.getElem_cons_succ, List.setIfInBounds_toArray, List.set_cons_zero, List.set_cons_succ])
      refine wpDet_take ?vB5 (Br.stays w0 _ _ _ _) (fun _ h => h.1) (i := 5) rfl (by kernel_rfl) (by kernel_rfl) (by kernel_rfl) (by kernel_rfl) (fun _ _ _ h => h) (Gives.value (by rfl) ?yB5) ?rB5
      case yB5 => (intro w' hSw; go_simp; try with_reducible rfl)
      (try simp only [Act.put, List.getElem_toArray, List.getElem_cons_zero, List.getElem_cons_succ, List.setIfInBounds_toArray, List.set_cons_zero, List.set_cons_succ])
      refine wpDet_ready (rs := [6]) (by kernel_rfl) (by simp) (AllDet.cons rfl (fun V hV K hK => ?_) AllDet.nil)
      rw [if_pos (by rfl)]
      refine wp_value (.pointer (some ⟨V.heap.size, 0, none⟩)) (V.alloc (.cells #[.int .i64 0, .slice none 0 0] 33)) (by first | (go_simp; done) | (go_simp; rfl)) ?_
      have hqx : ∀ a, q = some a → 0 < n → a.block ≠ V.heap.size := fun a ha h0 => by
        obtain ⟨g, o, e1, hc⟩ := hV.2.cells h0
        rw [ha] at e1
        cases e1
        exact Nat.ne_of_lt (World.block_lt_of_cell? _ _ (hc 0 h0).1)
      have hxl : w0.heap.size ≤ V.heap.size := (Bl.out hV.1).size
      refine hK.out (fun W => Br w0 q n d ms W ∧ Bx w0 V.heap.size W) _ _ ((Br.stays w0 _ _ _ _).and (Bx.stays w0 _)) (fun _ _ h => h.1.1) ⟨Br.stays w0 _ _ _ _ V _ hV ((Below.refl _ _).alloc (Nat.le_refl _) _), Bl.stays w0 V _ hV.1 ((Below.refl _ _).alloc (Nat.le_refl _) _), heap_alloc_new _ _⟩ ?_
      clear hK K hV
      generalize V.heap.size = x at *
      (try simp only [Act.put, List.getElem_toArray, List.getElem_cons_zero, List.getElem_cons_succ, List.setIfInBounds_toArray, List.set_cons_zero, List.set_cons_succ])
      refine wpDet_ready (rs := [7]) (by kernel_rfl) (by simp) (AllDet.cons rfl (fun V hV K hK => ?_) AllDet.nil)
      rw [if_pos (by rfl)]
      have y0 := cell_row hV.2.2 (j := 0) (v := .int .i64 0) rfl
      have y1 := cell_row hV.2.2 (j := 1) (v := .slice none 0 0) rfl
      have g0 := frozen_of_row V x 0 _ _ hV.2.2
      have g1 := frozen_of_row V x 1 _ _ hV.2.2
      have hth : V.there x 0 2 := fun j hj => by rw [Nat.zero_add]; match j, hj with | 0, _ => exact ⟨by rw [y0]; rfl, g0⟩ | 1, _ => exact ⟨by rw [y1]; rfl, g1⟩
      refine wp_store_mid 33 _ _ rfl x 0 #[.int .i64 e, .slice q n d] rfl rfl hth sizeC (one2 _ _ _ _) ?_
      have hz : Bz w0.heap.size w0 x e q n d ms ((V.setCell ⟨x, 0, none⟩ (.int .i64 e)).setCell ⟨x, 1, none⟩ (.slice q n d)) := ⟨Gr.putB (Bl.out hV.1.1) hxl _ _, hV.1.2.put _ _ (fun a ha h0 => hqx a ha h0), two0 y0, two1 y1, by have := (Bl.out hV.1.1).size; simp; omega⟩
      refine hK.out (Bz w0.heap.size w0 x e q n d ms) _ _ (Bz.stays _ _ _ _ _ _ _ _) (no_lean (by kernel_rfl)) hz ?_
      clear hK K hV hth hz y0 y1 g0 g1
      (try simp only [Act.put, List.getElem_toArray, List.getElem_cons_zero, List.getElem_cons_succ, List.setIfInBounds_toArray, List.set_cons_zero, List.set_cons_succ])
      refine wpDet_done (by kernel_rfl) (fun W3 hV => ?_) _
      obtain ⟨hb3, rq, z0, z1, hs3⟩ := hV
      have hK3 : Kq W3 w.heap.size x e p n c q d ms [a0, a1, a2, a3, a4, a5, a6, a7, a8] := ⟨cell_below hb3 k0, cell_below hb3 k1, z0, z1, hA.below hb3, hr0.below hb3, rq⟩
      have hB3 := hb0.trans (hb3.mono hb0.size)
      have g1 := h1 q d _ rq
      clear h1 k0 k1 z0 z1 rq hr0 hA hb3 hb0
      obtain ⟨k0, k1, z0, z1, hA3, hrp, hrq⟩ := hK3.all
      obtain ⟨c0, c1, c2, c3, c4, c5, c6, c7, c8⟩ := nine hA3
      go_wp2_with fail
      refine g1.mono ?_
      rintro r W4 ⟨q1, d1, rfl, hr1, hb4⟩
      have hK4 := hK3.below hb4
      have hB4 := hB3.trans (hb4.mono hB3.size)
      clear g1 k0 k1 z0 z1 hA3 hrp hrq hK3 c0 c1 c2 c3 c4 c5 c6 c7 c8
      obtain ⟨k0, k1, z0, z1, hA3, hrp, hrq⟩ := hK4.all
      obtain ⟨c0, c1, c2, c3, c4, c5, c6, c7, c8⟩ := nine hA3
      have g2 := h2 p c _ hrp
      go_wp2_with fail
      refine g2.mono ?_
      rintro r W5 ⟨q2, d2, rfl, hr2, hb5⟩
      have hK5 := hK4.below hb5
      have hB5 := hB4.trans (hb5.mono hB4.size)
      replace hr1 := hr1.below hb5
      clear g2 h2 k0 k1 z0 z1 hA3 hrp hrq hK4 c0 c1 c2 c3 c4 c5 c6 c7 c8
      obtain ⟨k0, k1, z0, z1, hA3, hrp, hrq⟩ := hK5.all
      obtain ⟨c0, c1, c2, c3, c4, c5, c6, c7, c8⟩ := nine hA3
      have g3 := h3 q d _ hrq
      go_wp2_with fail
      refine g3.mono ?_
      rintro r W6 ⟨rfl, hb6⟩
      have hK6 := hK5.below hb6
      have hB6 := hB5.trans (hb6.mono hB5.size)
      replace hr1 := hr1.below hb6
      replace hr2 := hr2.below hb6
      clear g3 h3 k0 k1 z0 z1 hA3 hrp hrq hK5 c0 c1 c2 c3 c4 c5 c6 c7 c8
      obtain ⟨k0, k1, z0, z1, hA3, hrp, hrq⟩ := hK6.all
      obtain ⟨c0, c1, c2, c3, c4, c5, c6, c7, c8⟩ := nine hA3
      have g4 := h4 p c _ hrp
      go_wp2_with fail
      refine g4.mono ?_
      rintro r W7 ⟨rfl, hb7⟩
      have hK7 := hK6.below hb7
      have hB7 := hB6.trans (hb7.mono hB6.size)
      replace hr1 := hr1.below hb7
      replace hr2 := hr2.below hb7
      clear g4 h4 k0 k1 z0 z1 hA3 hrp hrq hK6 c0 c1 c2 c3 c4 c5 c6 c7 c8
      have g5 := equalI_same q1 q2 m d1 d2 l _ hr1 hr2 (by omega)
      go_wp2_with fail
      refine g5.mono ?_
      rintro r W8 ⟨rfl, hb8⟩
      have hK8 := hK7.below hb8
      have hB8 := hB7.trans (hb8.mono hB7.size)
      clear g5 hK7 hr1 hr2
      obtain ⟨k0, k1, z0, z1, hA3, hrp, hrq⟩ := hK8.all
      have g6 := Same_any e e q p n n d c ms ms _ hrq hrp hn hn
      have e6 : (e == e && eqMs ms ms) = true := by simp [eqMs_self]
      rw [e6] at g6
      clear e6
      go_wp2_with fail
      refine g6.mono ?_
      rintro r W9 ⟨rfl, hb9⟩
      have hB9 := hB8.trans (hb9.mono hB8.size)
      clear g6 k0 k1 z0 z1 hA3 hrp hrq
      go_wp2_with fail
      refine (hW _).mono ?_
      rintro r W10 ⟨rfl, hb10⟩
      go_wp2_with fail
      go_ret
      exact ⟨rfl, hB9.trans (hb10.mono hB9.size)⟩
    · rw [if_pos (by rfl)]
      refine wp_value (.pointer (some ⟨V.heap.size, 0, none⟩)) (V.alloc (.cells #[.int .i64 0, .slice none 0 0] 33)) (by first | (go_simp; done) | (go_simp; rfl)) ?_
      have hxl : w0.heap.size ≤ V.heap.size := (Bl.out hV).size
      refine hK.out (Bx w0 V.heap.size) _ _ (Bx.stays w0 _) (fun _ _ h => h.1) ⟨Bl.stays w0 V _ hV ((Below.refl _ _).alloc (Nat.le_refl _) _), heap_alloc_new _ _⟩ ?_
      clear hK K hV
      generalize V.heap.size = x at *
      (try simp only [Act.put, List.getElem_toArray, List.getElem_cons_zero, List.getElem_cons_succ, List.setIfInBounds_toArray, List.set_cons_zero, List.set_cons_succ])
      refine wpDet_ready (rs := [4]) (by kernel_rfl) (by simp) (AllDet.cons rfl (fun V hV K hK => ?_) AllDet.nil)
      rw [if_pos (by rfl)]
      have hCv := cloneM_any p n c ms V (hr0.below hV.1) (by omega)
      refine wp_enterE 14 #[.slice p n c] (by first | (go_simp; done) | (go_simp; rfl)) (fun v W => Copy W V.heap.size n ms v ∧ Below V.heap.size V W) (hCv.mono fun e' w' hh => by obtain ⟨v, h1, h2, h3⟩ := hh; exact ⟨v, h1, h2, h3⟩) ?_
      rintro v7 V7 ⟨hcp, hb7⟩
      obtain ⟨q, d, rfl, hq, hrq⟩ := hcp.tell hl
      have hqx : ∀ a, q = some a → 0 < n → a.block ≠ x := fun a ha h0 => Nat.ne_of_gt (Nat.lt_of_lt_of_le (Array.getElem?_eq_some_iff.1 hV.2).1 (hq a ha h0))
      refine hK.out (fun W => Br w0 q n d ms W ∧ Bx w0 x W) _ _ ((Br.stays w0 _ _ _ _).and (Bx.stays w0 _)) (fun _ _ h => h.1.1) ⟨⟨Bl.stays w0 V V7 hV.1 hb7, hrq⟩, Bx.stays w0 x V V7 hV hb7⟩ ?_
      clear hK K hCv hcp hb7 hV hrq
      (try simp only [Act.put, List.getElem_toArray, List.getElem_cons_zero, List.getElem_cons_succ, List.setIfInBounds_toArray, List.set_cons_zero, List.set_cons_succ])
      refine wpDet_take ?vC5 ((Br.stays w0 _ _ _ _).and (Bx.stays w0 _)) (fun _ h => h.1.1) (i := 5) rfl (by kernel_rfl) (by kernel_rfl) (by kernel_rfl) (by kernel_rfl) (fun _ _ _ h => h) (Gives.value (by rfl) ?yC5) ?rC5
      case yC5 => (intro w' hSw; go_simp; try with_reducible rfl)
      (try simp only [Act.put, List.getElem_toArray, List.getElem_cons_zero, List.getElem_cons_succ, List.setIfInBounds_toArray, List.set_cons_zero, List.set_cons_succ])
      refine wpDet_ready (rs := [7]) (by kernel_rfl) (by simp) (AllDet.cons rfl (fun V hV K hK => ?_) AllDet.nil)
      rw [if_pos (by rfl)]
      have y0 := cell_row hV.2.2 (j := 0) (v := .int .i64 0) rfl
      have y1 := cell_row hV.2.2 (j := 1) (v := .slice none 0 0) rfl
      have g0 := frozen_of_row V x 0 _ _ hV.2.2
      have g1 := frozen_of_row V x 1 _ _ hV.2.2
      have hth : V.there x 0 2 := fun j hj => by rw [Nat.zero_add]; match j, hj with | 0, _ => exact ⟨by rw [y0]; rfl, g0⟩ | 1, _ => exact ⟨by rw [y1]; rfl, g1⟩
      refine wp_store_mid 33 _ _ rfl x 0 #[.int .i64 e, .slice q n d] rfl rfl hth sizeC (one2 _ _ _ _) ?_
      have hz : Bz w0.heap.size w0 x e q n d ms ((V.setCell ⟨x, 0, none⟩ (.int .i64 e)).setCell ⟨x, 1, none⟩ (.slice q n d)) := ⟨Gr.putB (Bl.out hV.1.1) hxl _ _, hV.1.2.put _ _ (fun a ha h0 => hqx a ha h0), two0 y0, two1 y1, by have := (Bl.out hV.1.1).size; simp; omega⟩
      refine hK.out (Bz w0.heap.size w0 x e q n d ms) _ _ (Bz.stays _ _ _ _ _ _ _ _) (no_lean (by kernel_rfl)) hz ?_
      clear hK K hV hth hz y0 y1 g0 g1
      (try simp only [Act.put, List.getElem_toArray, List.getElem_cons_zero, List.getElem_cons_succ, List.setIfInBounds_toArray, List.set_cons_zero, List.set_cons_succ])
      refine wpDet_done (by kernel_rfl) (fun W3 hV => ?_) _
      obtain ⟨hb3, rq, z0, z1, hs3⟩ := hV
      have hK3 : Kq W3 w.heap.size x e p n c q d ms [a0, a1, a2, a3, a4, a5, a6, a7, a8] := ⟨cell_below hb3 k0, cell_below hb3 k1, z0, z1, hA.below hb3, hr0.below hb3, rq⟩
      have hB3 := hb0.trans (hb3.mono hb0.size)
      have g1 := h1 q d _ rq
      clear h1 k0 k1 z0 z1 rq hr0 hA hb3 hb0
      obtain ⟨k0, k1, z0, z1, hA3, hrp, hrq⟩ := hK3.all
      obtain ⟨c0, c1, c2, c3, c4, c5, c6, c7, c8⟩ := nine hA3
      go_wp2_with fail
      refine g1.mono ?_
      rintro r W4 ⟨q1, d1, rfl, hr1, hb4⟩
      have hK4 := hK3.below hb4
      have hB4 := hB3.trans (hb4.mono hB3.size)
      clear g1 k0 k1 z0 z1 hA3 hrp hrq hK3 c0 c1 c2 c3 c4 c5 c6 c7 c8
      obtain ⟨k0, k1, z0, z1, hA3, hrp, hrq⟩ := hK4.all
      obtain ⟨c0, c1, c2, c3, c4, c5, c6, c7, c8⟩ := nine hA3
      have g2 := h2 p c _ hrp
      go_wp2_with fail
      refine g2.mono ?_
      rintro r W5 ⟨q2, d2, rfl, hr2, hb5⟩
      have hK5 := hK4.below hb5
      have hB5 := hB4.trans (hb5.mono hB4.size)
      replace hr1 := hr1.below hb5
      clear g2 h2 k0 k1 z0 z1 hA3 hrp hrq hK4 c0 c1 c2 c3 c4 c5 c6 c7 c8
      obtain ⟨k0, k1, z0, z1, hA3, hrp, hrq⟩ := hK5.all
      obtain ⟨c0, c1, c2, c3, c4, c5, c6, c7, c8⟩ := nine hA3
      have g3 := h3 q d _ hrq
      go_wp2_with fail
      refine g3.mono ?_
      rintro r W6 ⟨rfl, hb6⟩
      have hK6 := hK5.below hb6
      have hB6 := hB5.trans (hb6.mono hB5.size)
      replace hr1 := hr1.below hb6
      replace hr2 := hr2.below hb6
      clear g3 h3 k0 k1 z0 z1 hA3 hrp hrq hK5 c0 c1 c2 c3 c4 c5 c6 c7 c8
      obtain ⟨k0, k1, z0, z1, hA3, hrp, hrq⟩ := hK6.all
      obtain ⟨c0, c1, c2, c3, c4, c5, c6, c7, c8⟩ := nine hA3
      have g4 := h4 p c _ hrp
      go_wp2_with fail
      refine g4.mono ?_
      rintro r W7 ⟨rfl, hb7⟩
      have hK7 := hK6.below hb7
      have hB7 := hB6.trans (hb7.mono hB6.size)
      replace hr1 := hr1.below hb7
      replace hr2 := hr2.below hb7
      clear g4 h4 k0 k1 z0 z1 hA3 hrp hrq hK6 c0 c1 c2 c3 c4 c5 c6 c7 c8
      have g5 := equalI_same q1 q2 m d1 d2 l _ hr1 hr2 (by omega)
      go_wp2_with fail
      refine g5.mono ?_
      rintro r W8 ⟨rfl, hb8⟩
      have hK8 := hK7.below hb8
      have hB8 := hB7.trans (hb8.mono hB7.size)
      clear g5 hK7 hr1 hr2
      obtain ⟨k0, k1, z0, z1, hA3, hrp, hrq⟩ := hK8.all
      have g6 := Same_any e e q p n n d c ms ms _ hrq hrp hn hn
      have e6 : (e == e && eqMs ms ms) = true := by simp [eqMs_self]
      rw [e6] at g6
      clear e6
      go_wp2_with fail
      refine g6.mono ?_
      rintro r W9 ⟨rfl, hb9⟩
      have hB9 := hB8.trans (hb9.mono hB8.size)
      clear g6 k0 k1 z0 z1 hA3 hrp hrq
      go_wp2_with fail
      refine (hW _).mono ?_
      rintro r W10 ⟨rfl, hb10⟩
      go_wp2_with fail
      go_ret
      exact ⟨rfl, hB9.trans (hb10.mono hB9.size)⟩

end Go.Proofs.Ytdjeafaaclhpkaa.M
