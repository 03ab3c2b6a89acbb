/-
  Own text: the contract of layout's First, of any members.
-/
import Derived.Test.YtcnkpgbmegppbaaYSort2
import Derived.Test.YtcnkpgbmegppbaaYFirst
namespace Go.Proofs.Ytcnkpgbmegppbaa.M
open Go.ChangeShapes Go.WideShapes Go.ChangeAt Go.RowKit

set_option maxRecDepth 20000 in
set_option maxHeartbeats 2000000 in
theorem First_many (p : Option Addr) (n c : Nat) (ms : List Mb) (w : World) (hr : RdM w p n c ms) (hn : n ≤ 1099511627776) (h7 : 6 < n) :
    Calls Try.prog 41 #[.slice p n c] w fun r w' => ∃ v, r = .returned v ∧ Told w.heap.size w' v (.error 80) ∧ Below w.heap.size w w' := by
  have hb0 : Below w.heap.size w (w.alloc (.cells #[.int .i64 0, .slice none 0 0] 42)) := (Below.refl _ _).alloc (Nat.le_refl _) _
  have hl := hr.len
  have h0 : 0 < n := by omega
  have r0 : (w.alloc (.cells #[.int .i64 0, .slice none 0 0] 42)).heap[w.heap.size]? = some (.cells #[.int .i64 0, .slice none 0 0] 42) := heap_alloc_new _ _
  have hr0 := hr.below hb0
  have hs0 : w.heap.size < (w.alloc (.cells #[.int .i64 0, .slice none 0 0] 42)).heap.size := by simp
  have hC := containsF_any _ cfFresh #[] _ p n c ms _ hr0 (by omega) (asksFresh _)
  generalize ms.any (fun m => m.f) = q at *
  generalize hw : w.heap.size = b at *
  go_enter Try.func41, Try.ntmps41
  go_wp2_with fail
  generalize (w.alloc (.cells #[.int .i64 0, .slice none 0 0] 42)) = w0 at *
  refine hC.mono ?_
  rintro r w1 ⟨rfl, hb1⟩
  have hB1 := hb0.trans (hb1.mono (by omega))
  have r1 := (hb1.block b hs0).trans r0
  have hr1 := hr0.below hb1
  have hs1 : b < w1.heap.size := Nat.lt_of_lt_of_le hs0 hb1.size
  clear hC hr hr0 hb0 r0
  have b0 := cell_row r1 (j := 0) (v := .int .i64 0) rfl
  have b1 := cell_row r1 (j := 1) (v := .slice none 0 0) rfl
  have f0 := frozen_of_row w1 b 0 _ _ r1
  have f1 := frozen_of_row w1 b 1 _ _ r1
  cases q with
  | true =>
    have e0 : ((w1.setCell ⟨b, 0, none⟩ (.int .i64 0)).setCell ⟨b, 1, none⟩ (.slice none 0 0)).cell? ⟨b, 0, none⟩ = some (.int .i64 0) := by rw [World.cell?_setCell_other (h := by simp), World.cell?_setCell_same (h := b0)]
    have e1 : ((w1.setCell ⟨b, 0, none⟩ (.int .i64 0)).setCell ⟨b, 1, none⟩ (.slice none 0 0)).cell? ⟨b, 1, none⟩ = some (.slice none 0 0) := by
      have e2 : (w1.setCell ⟨b, 0, none⟩ (.int .i64 0)).cell? ⟨b, 1, none⟩ = some (.slice none 0 0) := by rw [World.cell?_setCell_other (h := by simp)]; exact b1
      rw [World.cell?_setCell_same (h := e2)]
    have hbb := Gr.putB hB1 (Nat.le_refl b) (.int .i64 0) (.slice none 0 0)
    go_wp2_with fail
    exact bodyPost_ret (results_chain (p := 2) (u := 3) rfl _ _ b _ _ rfl e0 e1) rfl ⟨_, rfl, rfl, hbb⟩
  | false =>
    have hCl := cloneM_any p n c ms w1 hr1 (by omega)
    go_wp2_with fail
    refine hCl.mono ?_
    rintro r w2 ⟨v2, rfl, hcp, hb2⟩
    obtain ⟨_, ho⟩ := hcp.resolve_left (fun h => by have := h.1; omega)
    obtain ⟨g, N, rfl, hg, hR2⟩ := Row.of_owns ho hl h0
    have hB2 := hB1.trans (hb2.mono (by omega))
    have hs2 : b < w2.heap.size := Nat.lt_of_lt_of_le hs1 hb2.size
    have r2 := (hb2.block b hs1).trans r1
    have hb3 : Below w2.heap.size w2 (w2.alloc (.cells #[.int .i64 1, .slice (some ⟨g, 0, none⟩) n N] 42)) := (Below.refl _ _).alloc (Nat.le_refl _) _
    have r3 := (hb3.block b hs2).trans r2
    have hR3 := hR2.up hb3
    have c3 : (w2.alloc (.cells #[.int .i64 1, .slice (some ⟨g, 0, none⟩) n N] 42)).heap[w2.heap.size]? = some (.cells #[.int .i64 1, .slice (some ⟨g, 0, none⟩) n N] 42) := heap_alloc_new _ _
    have hS := sort_many _ g N n ms hR3 hl hn
    have hB3 := hB2.trans (hb3.mono (by omega))
    have hs3 : w2.heap.size < (w2.alloc (.cells #[.int .i64 1, .slice (some ⟨g, 0, none⟩) n N] 42)).heap.size := by simp
    have hgl := hR2.lt
    clear hCl hcp ho b0 b1 f0 f1 hR2 hR3 hb3
    go_wp2_with fail
    generalize (w2.alloc (.cells #[.int .i64 1, .slice (some ⟨g, 0, none⟩) n N] 42)) = w3 at *
    refine hS.mono ?_
    rintro r w4 ⟨rfl, L, hLl, hR4, hx4⟩
    have hbg : b < g := Nat.lt_of_lt_of_le hs1 hg
    have r4 := (hx4.block b (by omega) (by omega)).trans r3
    have c4 := (hx4.block w2.heap.size hs3 (by omega)).trans c3
    have hB4 := hB3.trans (hx4.below (B := b) (by omega) (by omega))
    have hrd := hR4.rd
    rw [hLl] at hrd
    have hCk := Check_any 1 _ n N L w4 hrd (by omega)
    unfold chkV at hCk
    have x0 := cell_row c4 (j := 0) (v := .int .i64 1) rfl
    have x1 := cell_row c4 (j := 1) (v := .slice (some ⟨g, 0, none⟩) n N) rfl
    clear hS r3 c3
    go_wp2_with fail
    refine hCk.mono ?_
    rintro r w5 ⟨rfl, hb5⟩
    have hs4 : b < w4.heap.size := (Array.getElem?_eq_some_iff.1 r4).1
    have hs4c : w2.heap.size < w4.heap.size := (Array.getElem?_eq_some_iff.1 c4).1
    have hB5 := hB4.trans (hb5.mono (by omega))
    have r5 := (hb5.block b hs4).trans r4
    have c5 := (hb5.block w2.heap.size hs4c).trans c4
    have hr5 := hrd.below hb5
    have b0 := cell_row r5 (j := 0) (v := .int .i64 0) rfl
    have b1 := cell_row r5 (j := 1) (v := .slice none 0 0) rfl
    have f0 := frozen_of_row w5 b 0 _ _ r5
    have f1 := frozen_of_row w5 b 1 _ _ r5
    have z0 := cell_row c5 (j := 0) (v := .int .i64 1) rfl
    have z1 := cell_row c5 (j := 1) (v := .slice (some ⟨g, 0, none⟩) n N) rfl
    clear hCk x0 x1 hrd r4 c4
    have e0 : ∀ x y, ((w5.setCell ⟨b, 0, none⟩ x).setCell ⟨b, 1, none⟩ y).cell? ⟨b, 0, none⟩ = some x := fun x y => by rw [World.cell?_setCell_other (h := by simp), World.cell?_setCell_same (h := b0)]
    have e1 : ∀ x y, ((w5.setCell ⟨b, 0, none⟩ x).setCell ⟨b, 1, none⟩ y).cell? ⟨b, 1, none⟩ = some y := fun x y => by
      have e2 : (w5.setCell ⟨b, 0, none⟩ x).cell? ⟨b, 1, none⟩ = some (.slice none 0 0) := by rw [World.cell?_setCell_other (h := by simp)]; exact b1
      rw [World.cell?_setCell_same (h := e2)]
    have E0 : Hid _ := e0
    have E1 : Hid _ := e1
    clear e0 e1
    have hk : chk 1 L = false := by
      cases hk : chk 1 L with
      | false => rfl
      | true => have := chk_parts hk; omega
    simp only [hk, Bool.false_eq_true, if_false]
    go_wp2_with fail
    exact bodyPost_ret (results_chain (p := 2) (u := 3) rfl _ _ b _ _ rfl (E0.out _ _) (E1.out _ _)) rfl ⟨_, rfl, rfl, Gr.putB hB5 (Nat.le_refl b) _ _⟩

set_option maxRecDepth 20000 in
theorem sort_none (w : World) (q : Option Addr) (d : Nat) :
    Calls Try.prog 65 #[.slice q 0 d, .func (.func 66) #[] #[]] w fun e w' => e = .returned (.tuple #[]) ∧ w' = w := by
  have hI : Calls Try.prog 84 #[.slice q 0 d, .int .i64 0, .int .i64 0, .func (.func 66) #[] #[]] w fun e w' => e = .returned (.tuple #[]) ∧ w' = w := by
    go_enter Try.func84, Try.ntmps84
    go_wp2_with fail
    go_loopw [8] (fun x wr => x = .int .i64 1 ∧ wr = w) (fun _ _ => 0)
    case atStart => exact ⟨by first | rfl | go_num, rfl⟩
    case round =>
      obtain ⟨rfl, rfl⟩ := hrel
      go_wp2_with fail
      go_end0
      exact ⟨rfl, rfl⟩
  have hS : Calls Try.prog 75 #[.slice q 0 d, .int .i64 0, .func (.func 66) #[] #[]] w fun e w' => e = .returned (.tuple #[]) ∧ w' = w := by
    go_enter Try.func75, Try.ntmps75
    go_wp2_with fail
    go_loopw [7, 8] (fun u v wr => u = .int .i64 0 ∧ v = .int .i64 20 ∧ wr = w) (fun _ _ _ => 0)
    case atStart => exact ⟨by first | rfl | go_num, by first | rfl | go_num, rfl⟩
    case round =>
      obtain ⟨rfl, rfl, hwr⟩ := hrel
      rw [hwr]
      clear hwr
      go_wp2_with fail
      refine hI.mono ?_
      rintro r w1 ⟨rfl, hw1⟩
      rw [hw1]
      clear hw1
      go_wp2_with fail
      go_loopw [6] (fun v wr => v = .int .i64 20 ∧ wr = w) (fun _ _ => 0)
      case atStart => exact ⟨rfl, rfl⟩
      case round =>
        obtain ⟨rfl, hwr⟩ := hrel
        rw [hwr]
        go_wp2_with fail
        go_end0
        exact ⟨rfl, rfl⟩
  go_enter Try.func65, Try.ntmps65
  go_wp2_with fail
  refine hS.mono ?_
  rintro r w1 ⟨rfl, rfl⟩
  go_wp2_with fail
  go_end0
  exact ⟨rfl, rfl⟩

set_option maxRecDepth 20000 in
set_option maxHeartbeats 2000000 in
theorem First_none (p : Option Addr) (c : Nat) (ms : List Mb) (w : World) (hr : RdM w p 0 c ms) :
    Calls Try.prog 41 #[.slice p 0 c] w fun r w' => ∃ v, r = .returned v ∧ Told w.heap.size w' v (.error 80) ∧ Below w.heap.size w w' := by
  have hb0 : Below w.heap.size w (w.alloc (.cells #[.int .i64 0, .slice none 0 0] 42)) := (Below.refl _ _).alloc (Nat.le_refl _) _
  have hl := hr.len
  have r0 : (w.alloc (.cells #[.int .i64 0, .slice none 0 0] 42)).heap[w.heap.size]? = some (.cells #[.int .i64 0, .slice none 0 0] 42) := heap_alloc_new _ _
  have hr0 := hr.below hb0
  have hs0 : w.heap.size < (w.alloc (.cells #[.int .i64 0, .slice none 0 0] 42)).heap.size := by simp
  have hC := containsF_any _ cfFresh #[] _ p 0 c ms _ hr0 (by omega) (asksFresh _)
  generalize ms.any (fun m => m.f) = q at *
  generalize hw : w.heap.size = b at *
  go_enter Try.func41, Try.ntmps41
  go_wp2_with fail
  generalize (w.alloc (.cells #[.int .i64 0, .slice none 0 0] 42)) = w0 at *
  refine hC.mono ?_
  rintro r w1 ⟨rfl, hb1⟩
  have hB1 := hb0.trans (hb1.mono (by omega))
  have r1 := (hb1.block b hs0).trans r0
  have hr1 := hr0.below hb1
  have hs1 : b < w1.heap.size := Nat.lt_of_lt_of_le hs0 hb1.size
  clear hC hr hr0 hb0 r0
  have b0 := cell_row r1 (j := 0) (v := .int .i64 0) rfl
  have b1 := cell_row r1 (j := 1) (v := .slice none 0 0) rfl
  have f0 := frozen_of_row w1 b 0 _ _ r1
  have f1 := frozen_of_row w1 b 1 _ _ r1
  cases q with
  | true =>
    have e0 : ((w1.setCell ⟨b, 0, none⟩ (.int .i64 0)).setCell ⟨b, 1, none⟩ (.slice none 0 0)).cell? ⟨b, 0, none⟩ = some (.int .i64 0) := by rw [World.cell?_setCell_other (h := by simp), World.cell?_setCell_same (h := b0)]
    have e1 : ((w1.setCell ⟨b, 0, none⟩ (.int .i64 0)).setCell ⟨b, 1, none⟩ (.slice none 0 0)).cell? ⟨b, 1, none⟩ = some (.slice none 0 0) := by
      have e2 : (w1.setCell ⟨b, 0, none⟩ (.int .i64 0)).cell? ⟨b, 1, none⟩ = some (.slice none 0 0) := by rw [World.cell?_setCell_other (h := by simp)]; exact b1
      rw [World.cell?_setCell_same (h := e2)]
    have hbb := Gr.putB hB1 (Nat.le_refl b) (.int .i64 0) (.slice none 0 0)
    go_wp2_with fail
    exact bodyPost_ret (results_chain (p := 2) (u := 3) rfl _ _ b _ _ rfl e0 e1) rfl ⟨_, rfl, rfl, hbb⟩
  | false =>
    have hCl := cloneM_any p 0 c ms w1 hr1 (by omega)
    go_wp2_with fail
    refine hCl.mono ?_
    rintro r w2 ⟨v2, rfl, hcp, hb2⟩
    obtain ⟨q, d, rfl, hqd, hrq⟩ := hcp.tell hl
    obtain rfl : ms = [] := List.length_eq_zero_iff.1 hl
    have hB2 := hB1.trans (hb2.mono (by omega))
    have hs2 : b < w2.heap.size := Nat.lt_of_lt_of_le hs1 hb2.size
    have r2 := (hb2.block b hs1).trans r1
    have hb3 : Below w2.heap.size w2 (w2.alloc (.cells #[.int .i64 1, .slice q 0 d] 42)) := (Below.refl _ _).alloc (Nat.le_refl _) _
    have r3 := (hb3.block b hs2).trans r2
    have c3 : (w2.alloc (.cells #[.int .i64 1, .slice q 0 d] 42)).heap[w2.heap.size]? = some (.cells #[.int .i64 1, .slice q 0 d] 42) := heap_alloc_new _ _
    have hS := sort_none (w2.alloc (.cells #[.int .i64 1, .slice q 0 d] 42)) q d
    have hB3 := hB2.trans (hb3.mono (by omega))
    have hs3 : w2.heap.size < (w2.alloc (.cells #[.int .i64 1, .slice q 0 d] 42)).heap.size := by simp
    clear hCl hcp b0 b1 f0 f1 hb3
    go_wp2_with fail
    generalize (w2.alloc (.cells #[.int .i64 1, .slice q 0 d] 42)) = w3 at *
    refine hS.mono ?_
    rintro r w4 ⟨rfl, rfl⟩
    have r4 := r3
    have c4 := c3
    have hB4 := hB3
    have hrd : RdM w4 q 0 d [] := ⟨rfl, Nat.zero_le _, hrq.nil, fun h => absurd h (Nat.lt_irrefl _)⟩
    clear hrq
    have hCk := Check_any 1 _ 0 d [] w4 hrd (by omega)
    unfold chkV at hCk
    have x0 := cell_row c4 (j := 0) (v := .int .i64 1) rfl
    have x1 := cell_row c4 (j := 1) (v := .slice q 0 d) rfl
    clear hS r3 c3
    go_wp2_with fail
    refine hCk.mono ?_
    rintro r w5 ⟨rfl, hb5⟩
    have hs4 : b < w4.heap.size := (Array.getElem?_eq_some_iff.1 r4).1
    have hs4c : w2.heap.size < w4.heap.size := (Array.getElem?_eq_some_iff.1 c4).1
    have hB5 := hB4.trans (hb5.mono (by omega))
    have r5 := (hb5.block b hs4).trans r4
    have c5 := (hb5.block w2.heap.size hs4c).trans c4
    have hr5 := hrd.below hb5
    have b0 := cell_row r5 (j := 0) (v := .int .i64 0) rfl
    have b1 := cell_row r5 (j := 1) (v := .slice none 0 0) rfl
    have f0 := frozen_of_row w5 b 0 _ _ r5
    have f1 := frozen_of_row w5 b 1 _ _ r5
    have z0 := cell_row c5 (j := 0) (v := .int .i64 1) rfl
    have z1 := cell_row c5 (j := 1) (v := .slice q 0 d) rfl
    clear hCk x0 x1 hrd r4 c4
    have e0 : ∀ x y, ((w5.setCell ⟨b, 0, none⟩ x).setCell ⟨b, 1, none⟩ y).cell? ⟨b, 0, none⟩ = some x := fun x y => by rw [World.cell?_setCell_other (h := by simp), World.cell?_setCell_same (h := b0)]
    have e1 : ∀ x y, ((w5.setCell ⟨b, 0, none⟩ x).setCell ⟨b, 1, none⟩ y).cell? ⟨b, 1, none⟩ = some y := fun x y => by
      have e2 : (w5.setCell ⟨b, 0, none⟩ x).cell? ⟨b, 1, none⟩ = some (.slice none 0 0) := by rw [World.cell?_setCell_other (h := by simp)]; exact b1
      rw [World.cell?_setCell_same (h := e2)]
    have E0 : Hid _ := e0
    have E1 : Hid _ := e1
    clear e0 e1
    have hk : chk 1 [] = false := by
      cases hk : chk 1 [] with
      | false => rfl
      | true => have := (chk_parts hk).2.2.1; exact absurd this (Nat.lt_irrefl _)
    simp only [hk, Bool.false_eq_true, if_false]
    go_wp2_with fail
    exact bodyPost_ret (results_chain (p := 2) (u := 3) rfl _ _ b _ _ rfl (E0.out _ _) (E1.out _ _)) rfl ⟨_, rfl, rfl, Gr.putB hB5 (Nat.le_refl b) _ _⟩

end Go.Proofs.Ytcnkpgbmegppbaa.M
