/-
  Own text: the walk of the law DiskPlays.
-/
import Derived.Test.YtcgpdaalehgjdaaRSt
namespace Go.Proofs.Ytcgpdaalehgjdaa.M
open Go.ChangeShapes Go.WideShapes Go.ChangeAt Go.RowKit

set_option linter.unusedSimpArgs false in
set_option maxRecDepth 20000 in
set_option maxHeartbeats 16000000 in
theorem walk_DiskPlays (w : World) (room : Int) (_hroom : (Lit.int .i64 room).wf = true) (p : Option Addr) (n c : Nat) (ls : List Dv) (hl : RdQ w p n c ls) :
    Calls Try.prog 3 #[.int .i64 room, .slice p n c] w fun e w' => e = .returned (.bool true) ∧ Below w.heap.size w w' := by
  have hAw := fun W => awake_any W
  by_cases hbad : room < 1 ∨ 4194304 < room
  · have hN := new_bad w room hbad
    have hM := rnew_bad w room hbad
    clear hbad
    go_enter Try.func3, Try.ntmps3
    go_wp2_with fail
    refine hN.mono ?_
    rintro e w1 ⟨rfl, rfl⟩
    go_wp2_with fail
    refine hM.mono ?_
    rintro e w2 ⟨rfl, rfl⟩
    go_wp2_with fail
    refine (hAw _).mono ?_
    rintro e w3 ⟨rfl, hb3⟩
    go_wp2_with fail
    go_ret
    exact ⟨rfl, hb3⟩
  obtain ⟨R, rfl⟩ := Int.eq_ofNat_of_zero_le (show 0 ≤ room by omega)
  have hR1 : 1 ≤ R := by omega
  have hR2 : R ≤ 4194304 := by omega
  clear hbad
  have hN := New_ok w 1 R hR1 hR2
  go_enter Try.func3, Try.ntmps3
  go_wp2_with fail
  refine hN.mono ?_
  rintro e w1 ⟨rfl, hD1, hb1⟩
  have hM := rnew_any w1 R hR1 hR2
  clear hN
  go_wp2_with fail
  refine hM.mono ?_
  rintro e w2 ⟨rfl, hC2, hb2⟩
  have hb12 := hb1.trans (hb2.mono hb1.size)
  have hb3 : Below w2.heap.size w2 (w2.alloc (.cells #[.slice p n c] 22)) := (Below.refl _ _).alloc (Nat.le_refl _) _
  have r0 : (w2.alloc (.cells #[.slice p n c] 22)).heap[w2.heap.size]? = some (.cells #[.slice p n c] 22) := heap_alloc_new _ _
  have hb13 := hb12.trans (hb3.mono hb12.size)
  have hl3 := hl.below hb13
  have hS := short_any (w2.alloc (.cells #[.slice p n c] 22)) _ 1 1 _ (RdQQ.one (cell_row r0 rfl) hl3) (by decide)
  have hD3 := (hD1.below hb2).below hb3
  have hC3 := hC2.below hb3
  have g1 := hD1.dc.lt
  have g2 := hC2.lt
  have z3 := hb3.size
  clear hM r0 hD1 hC2
  go_wp2_with fail
  generalize (w2.alloc (.cells #[.slice p n c] 22)) = w3 at *
  refine hS.mono ?_
  rintro e w4 ⟨⟨bb, rfl, hbb⟩, hb4⟩
  have hB4 := hb13.trans (hb4.mono hb13.size)
  have z4 := hb4.size
  clear hS
  cases bb with
  | false =>
    go_wp2_with fail
    refine (hAw _).mono ?_
    rintro e w5 ⟨rfl, hb5⟩
    go_wp2_with fail
    go_ret
    exact ⟨rfl, hB4.trans (hb5.mono hB4.size)⟩
  | true =>
    obtain ⟨s1, s2, _⟩ := short_of (hbb rfl) (j := 0) (by simp)
    change ls.length ≤ 150 at s1
    change Small ls at s2
    have hlen := hl.len
    rw [hlen] at s1
    clear hbb hl3
    have hBo : Both w4 w.heap.size w.heap.size w1.heap.size (fun j => if j = w1.heap.size then farM else 0) (dk0 R) ⟨none, 0, 0⟩ (pd0 R) :=
      ⟨(hD3.below hb4).reown (fun j e => by unfold mark at e; omega) (if_neg (by omega)) (fun x e => by cases e) (fun j hj => if_neg (by omega)), ⟨hC3.below hb4, Rd.empty _ _ _ _ (fun _ => rfl), (fun x e _ => by cases e)⟩, if_pos rfl, by omega, fun j hj => if_neg (by omega), (fun x e _ => by cases e)⟩
    clear hD3 hC3
    generalize (fun j => if j = w1.heap.size then farM else 0) = own0 at *
    generalize dk0 R = d00 at *
    go_wp2_with fail
    go_loopw [53] (fun ix wr => ∃ (k : Nat) (own : Nat → Nat) (d : Dk) (kk : Sl), k ≤ n ∧ ix = .int .i64 k ∧ Both wr w.heap.size w.heap.size w1.heap.size own d kk (playN (pd0 R) ls k) ∧ Below w.heap.size w wr) (fun ix _ => n - (intOf ix).toNat)
    case atStart => exact ⟨0, own0, d00, _, Nat.zero_le _, rfl, hBo, hB4⟩
    case round =>
      clear hBo hB4
      obtain ⟨k, own, d, kk, hkn, rfl, hBo, hBr⟩ := hrel
      by_cases hlt : k < n
      · have hki : (k : Int) < (n : Int) := by omega
        obtain ⟨b, o, rfl, hc⟩ := hl.cells (by omega)
        have hck := hc k hlt
        have hblt := World.block_lt_of_cell? _ _ hck.c0
        have hck2 := hck.below hBr hblt
        have hrd0 := hl.rd k hlt
        have hsm := s2 k (by omega)
        have hok := playN_ok hl s2 (pd0_ok hR1 hR2) k (by omega)
        have hby := bytesN_le s2 k (by omega)
        have HS : Hid (playN (pd0 R) ls (k + 1) = ((playN (pd0 R) ls k).step (ls.getD k .z0).q).1) := rfl
        clear hc hck
        generalize ls.getD k .z0 = x at *
        obtain ⟨op, i, nn, bq, bl, bc, kq, kl, kc, xb, xk⟩ := x
        obtain ⟨c0, c1, c2, c3, c4⟩ := hck2
        dsimp only [Dv.q] at *
        have hbA : Below wr.heap.size wr ((wr.alloc (.cells #[.int .i64 op, .int .i64 i, .int .i64 nn, .slice bq bl bc, .slice kq kl kc] 35)).alloc (.cells #[.int .i64 op, .int .i64 i, .int .i64 nn, .slice bq bl bc, .slice kq kl kc] 35)) := ((Below.refl _ _).alloc (Nat.le_refl _) _).alloc (by simp) _
        obtain ⟨r0, r1⟩ := rows2 wr (.cells #[.int .i64 op, .int .i64 i, .int .i64 nn, .slice bq bl bc, .slice kq kl kc] 35) (.cells #[.int .i64 op, .int .i64 i, .int .i64 nn, .slice bq bl bc, .slice kq kl kc] 35)
        have x10 : (⟨op, i, nn, bq, bl, bc, kq, kl, kc, xb, xk⟩ : Dv).at ((wr.alloc (.cells #[.int .i64 op, .int .i64 i, .int .i64 nn, .slice bq bl bc, .slice kq kl kc] 35)).alloc (.cells #[.int .i64 op, .int .i64 i, .int .i64 nn, .slice bq bl bc, .slice kq kl kc] 35)) wr.heap.size 0 := ⟨cell_row r0 rfl, cell_row r0 rfl, cell_row r0 rfl, cell_row r0 rfl, cell_row r0 rfl⟩
        have x11 : (⟨op, i, nn, bq, bl, bc, kq, kl, kc, xb, xk⟩ : Dv).at ((wr.alloc (.cells #[.int .i64 op, .int .i64 i, .int .i64 nn, .slice bq bl bc, .slice kq kl kc] 35)).alloc (.cells #[.int .i64 op, .int .i64 i, .int .i64 nn, .slice bq bl bc, .slice kq kl kc] 35)) (wr.heap.size + 1) 0 := ⟨cell_row r1 rfl, cell_row r1 rfl, cell_row r1 rfl, cell_row r1 rfl, cell_row r1 rfl⟩
        have f11 : ∀ j, ((wr.alloc (.cells #[.int .i64 op, .int .i64 i, .int .i64 nn, .slice bq bl bc, .slice kq kl kc] 35)).alloc (.cells #[.int .i64 op, .int .i64 i, .int .i64 nn, .slice bq bl bc, .slice kq kl kc] 35)).frozen? ⟨wr.heap.size + 1, j, none⟩ = false := fun j => by
          have e : wr.heap.size + 1 = (wr.alloc (.cells #[.int .i64 op, .int .i64 i, .int .i64 nn, .slice bq bl bc, .slice kq kl kc] 35)).heap.size := by simp
          rw [e]
          exact World.frozen?_alloc_at _ _ _ _ rfl
        have hwB11 : wr.heap.size + 1 < ((wr.alloc (.cells #[.int .i64 op, .int .i64 i, .int .i64 nn, .slice bq bl bc, .slice kq kl kc] 35)).alloc (.cells #[.int .i64 op, .int .i64 i, .int .i64 nn, .slice bq bl bc, .slice kq kl kc] 35)).heap.size := by simp
        have hrb := (hrd0.b.low hBr (Nat.le_refl _)).below' hbA
        have hrk := (hrd0.k.low hBr (Nat.le_refl _)).below' hbA
        have HB : Hid (((wr.alloc (.cells #[.int .i64 op, .int .i64 i, .int .i64 nn, .slice bq bl bc, .slice kq kl kc] 35)).alloc (.cells #[.int .i64 op, .int .i64 i, .int .i64 nn, .slice bq bl bc, .slice kq kl kc] 35)).heap.size = wr.heap.size + 2) := by unfold Hid; simp
        clear r0 r1
        go_wp2_with fail
        generalize ((wr.alloc (.cells #[.int .i64 op, .int .i64 i, .int .i64 nn, .slice bq bl bc, .slice kq kl kc] 35)).alloc (.cells #[.int .i64 op, .int .i64 i, .int .i64 nn, .slice bq bl bc, .slice kq kl kc] 35)) = wB at *
        obtain ⟨b10, hb10⟩ : ∃ b, b = wr.heap.size := ⟨_, rfl⟩
        obtain ⟨b11, hb11⟩ : ∃ b, b = wr.heap.size + 1 := ⟨_, rfl⟩
        have HB10 : Hid (b10 = wr.heap.size) := hb10
        have HB11 : Hid (b11 = wr.heap.size + 1) := hb11
        rw [← hb11, ← hb10]
        rw [← hb10] at x10
        rw [← hb11] at x11 f11 hwB11
        have hne11 : b10 ≠ b11 := by omega
        have hwB10 : b10 < wB.heap.size := by omega
        clear hb10 hb11
        have hS0 : PS wB b10 b11 (⟨op, i, nn, bq, bl, bc, kq, kl, kc, xb, xk⟩ : Dv) (⟨op, i, nn, bq, bl, bc, kq, kl, kc, xb, xk⟩ : Dv) wB.drew := PS.stays wB b10 b11 _ _ _ _ ⟨x10, x11, f11, hrb, hrk, Below.refl _ _⟩ (Below.refl _ _).drew
        clear x10 x11 f11 hrb hrk c0 c1 c2 c3 c4
        refine wp_region_det [0, 1, 3, 4, 6, 8] (fun V => (⟨op, i, nn, bq, bl, bc, kq, kl, kc, xb, xk⟩ : Dv).at V b10 0 ∧ ∃ y : Dv, y.at V b11 0) (PS wB b10 b11 (⟨op, i, nn, bq, bl, bc, kq, kl, kc, xb, xk⟩ : Dv) (⟨op, i, nn, bq, bl, bc, kq, kl, kc, xb, xk⟩ : Dv)) (by kernel_rfl) hS0 ?_
        refine wpDet_take ?vE0 (PS.stays wB b10 b11 (⟨op, i, nn, bq, bl, bc, kq, kl, kc, xb, xk⟩ : Dv) (⟨op, i, nn, bq, bl, bc, kq, kl, kc, xb, xk⟩ : Dv)) (fun _ h => ⟨h.1, _, h.2.1⟩) (i := 0) rfl (by kernel_rfl) (by kernel_rfl) (by kernel_rfl) (by kernel_rfl) (fun _ _ _ h => h) (Gives.value (by rfl) ?yE0) ?rE0
        case yE0 => (intro w' hSw; (try dsimp only at hSw); go_simp; try with_reducible rfl)
        (try simp only [Act.put, List.getElem_toArray, List.getElem_cons_zero, List.getElem_cons_succ, List.setIfInBounds_toArray, List.set_cons_zero, List.set_cons_succ])
        refine wpDet_take ?vE1 (PS.stays wB b10 b11 (⟨op, i, nn, bq, bl, bc, kq, kl, kc, xb, xk⟩ : Dv) (⟨op, i, nn, bq, bl, bc, kq, kl, kc, xb, xk⟩ : Dv)) (fun _ h => ⟨h.1, _, h.2.1⟩) (i := 1) rfl (by kernel_rfl) (by kernel_rfl) (by kernel_rfl) (by kernel_rfl) (fun _ _ _ h => h) (Gives.value (by rfl) ?yE1) ?rE1
        case yE1 => (intro w' hSw; have hq0 := hSw.1.c3; (try dsimp only at hSw); go_simp; try with_reducible rfl)
        (try simp only [Act.put, List.getElem_toArray, List.getElem_cons_zero, List.getElem_cons_succ, List.setIfInBounds_toArray, List.set_cons_zero, List.set_cons_succ])
        refine wpDet_take ?vE3 (PS.stays wB b10 b11 (⟨op, i, nn, bq, bl, bc, kq, kl, kc, xb, xk⟩ : Dv) (⟨op, i, nn, bq, bl, bc, kq, kl, kc, xb, xk⟩ : Dv)) (fun _ h => ⟨h.1, _, h.2.1⟩) (i := 3) rfl (by kernel_rfl) (by kernel_rfl) (by kernel_rfl) (by kernel_rfl) (fun _ _ _ h => h) (Gives.value (by rfl) ?yE3) ?rE3
        case yE3 => (intro w' hSw; (try dsimp only at hSw); go_simp; try with_reducible rfl)
        (try simp only [Act.put, List.getElem_toArray, List.getElem_cons_zero, List.getElem_cons_succ, List.setIfInBounds_toArray, List.set_cons_zero, List.set_cons_succ])
        refine wpDet_take ?vE4 (PS.stays wB b10 b11 (⟨op, i, nn, bq, bl, bc, kq, kl, kc, xb, xk⟩ : Dv) (⟨op, i, nn, bq, bl, bc, kq, kl, kc, xb, xk⟩ : Dv)) (fun _ h => ⟨h.1, _, h.2.1⟩) (i := 4) rfl (by kernel_rfl) (by kernel_rfl) (by kernel_rfl) (by kernel_rfl) (fun _ _ _ h => h) (Gives.value (by rfl) ?yE4) ?rE4
        case yE4 => (intro w' hSw; have hq0 := hSw.1.c4; (try dsimp only at hSw); go_simp; try with_reducible rfl)
        (try simp only [Act.put, List.getElem_toArray, List.getElem_cons_zero, List.getElem_cons_succ, List.setIfInBounds_toArray, List.set_cons_zero, List.set_cons_succ])
        refine wpDet_ready (rs := [2]) (by kernel_rfl) (by simp) (AllDet.cons rfl (fun V hV K hK => ?_) AllDet.nil)
        rw [if_pos (by rfl)]
        have hC := sclone_own bq bl bc xb V hV.2.2.2.1 (by omega)
        refine wp_enterX 13 #[.slice bq bl bc] (by first | (go_simp; done) | (go_simp; rfl)) (fun v V' => ∃ p' c', v = .slice p' bl c' ∧ OwS .u8 5 V' V.heap.size p' bl c' xb ∧ Below V.heap.size V V') (hC.mono fun e V' ⟨p', c', h1, h2⟩ => ⟨_, h1, p', c', rfl, h2⟩) ?_
        rintro v V' ⟨p1, c1, rfl, o1, h3⟩
        have hst := PS.stays wB b10 b11 (⟨op, i, nn, bq, bl, bc, kq, kl, kc, xb, xk⟩ : Dv) (⟨op, i, nn, bq, bl, bc, kq, kl, kc, xb, xk⟩ : Dv) V V' hV h3
        refine hK.out (fun U => PS wB b10 b11 (⟨op, i, nn, bq, bl, bc, kq, kl, kc, xb, xk⟩ : Dv) (⟨op, i, nn, bq, bl, bc, kq, kl, kc, xb, xk⟩ : Dv) U ∧ OwS .u8 5 U wB.heap.size p1 bl c1 xb) _ _ (PS1.stays wB b10 b11 (⟨op, i, nn, bq, bl, bc, kq, kl, kc, xb, xk⟩ : Dv) (⟨op, i, nn, bq, bl, bc, kq, kl, kc, xb, xk⟩ : Dv) p1 c1) (fun _ _ h => ⟨h.1.1, _, h.1.2.1⟩) ⟨hst, o1.lower hV.2.2.2.2.2.size⟩ ?_
        clear hK K hC hV o1 h3 hst
        (try simp only [Act.put, List.getElem_toArray, List.getElem_cons_zero, List.getElem_cons_succ, List.setIfInBounds_toArray, List.set_cons_zero, List.set_cons_succ])
        refine wpDet_take ?vE6 (PS1.stays wB b10 b11 (⟨op, i, nn, bq, bl, bc, kq, kl, kc, xb, xk⟩ : Dv) (⟨op, i, nn, bq, bl, bc, kq, kl, kc, xb, xk⟩ : Dv) p1 c1) (fun _ h => ⟨h.1.1, _, h.1.2.1⟩) (i := 6) rfl (by kernel_rfl) (by kernel_rfl) (by kernel_rfl) (by kernel_rfl) (fun _ _ _ h => h) (Gives.value (by rfl) ?yE6) ?rE6
        case yE6 => (intro w' hSw; (try dsimp only at hSw); go_simp; try with_reducible rfl)
        (try simp only [Act.put, List.getElem_toArray, List.getElem_cons_zero, List.getElem_cons_succ, List.setIfInBounds_toArray, List.set_cons_zero, List.set_cons_succ])
        refine wpDet_ready (rs := [5]) (by kernel_rfl) (by simp) (AllDet.cons rfl (fun V hV K hK => ?_) AllDet.nil)
        rw [if_pos (by rfl)]
        have hC := iclone_own kq kl kc xk V hV.1.2.2.2.2.1 (by omega)
        refine wp_enterX 14 #[.slice kq kl kc] (by first | (go_simp; done) | (go_simp; rfl)) (fun v V' => ∃ p' c', v = .slice p' kl c' ∧ OwS .i64 3 V' V.heap.size p' kl c' xk ∧ Below V.heap.size V V') (hC.mono fun e V' ⟨p', c', h1, h2⟩ => ⟨_, h1, p', c', rfl, h2⟩) ?_
        rintro v V' ⟨p2, c2, rfl, o2, h3⟩
        have hst := PS1.stays wB b10 b11 (⟨op, i, nn, bq, bl, bc, kq, kl, kc, xb, xk⟩ : Dv) (⟨op, i, nn, bq, bl, bc, kq, kl, kc, xb, xk⟩ : Dv) p1 c1 V V' hV h3
        refine hK.out (fun U => (PS wB b10 b11 (⟨op, i, nn, bq, bl, bc, kq, kl, kc, xb, xk⟩ : Dv) (⟨op, i, nn, bq, bl, bc, kq, kl, kc, xb, xk⟩ : Dv) U ∧ OwS .u8 5 U wB.heap.size p1 bl c1 xb) ∧ OwS .i64 3 U wB.heap.size p2 kl c2 xk ∧ (∀ x y, p1 = some x → p2 = some y → x.block ≠ y.block)) _ _ (PS2.stays wB b10 b11 (⟨op, i, nn, bq, bl, bc, kq, kl, kc, xb, xk⟩ : Dv) (⟨op, i, nn, bq, bl, bc, kq, kl, kc, xb, xk⟩ : Dv) p1 c1 p2 c2) (fun _ _ h => ⟨h.1.1.1, _, h.1.1.2.1⟩) ⟨hst, o2.lower hV.1.2.2.2.2.2.size, fun x y e1 e2 => by have h5 := (hV.2.lt e1).2; have h6 := (o2.lt e2).1; omega⟩ ?_
        clear hK K hC hV o2 h3 hst
        (try simp only [Act.put, List.getElem_toArray, List.getElem_cons_zero, List.getElem_cons_succ, List.setIfInBounds_toArray, List.set_cons_zero, List.set_cons_succ])
        refine wpDet_ready (rs := [7]) (by kernel_rfl) (by simp) (AllDet.cons rfl (fun V hV K hK => ?_) AllDet.nil)
        rw [if_pos (by rfl)]
        refine wp_store_slice 32 _ _ rfl b11 3 p1 bl c1 _ rfl rfl sizeSl hV.1.1.2.1.c3 (hV.1.1.2.2.1 3) ?_
        refine hK.out (fun U => PT3 wB b10 b11 (⟨op, i, nn, bq, bl, bc, kq, kl, kc, xb, xk⟩ : Dv) (⟨op, i, nn, p1, bl, c1, kq, kl, kc, xb, xk⟩ : Dv) p1 c1 p2 c2 U) _ _ (PT3.stays wB b10 b11 (⟨op, i, nn, bq, bl, bc, kq, kl, kc, xb, xk⟩ : Dv) (⟨op, i, nn, p1, bl, c1, kq, kl, kc, xb, xk⟩ : Dv) p1 c1 p2 c2) (fun _ _ h => ⟨h.1, _, h.2.1⟩) (PS2.put3 hV hne11 hwB10 hwB11) ?_
        clear hK K hV
        (try simp only [Act.put, List.getElem_toArray, List.getElem_cons_zero, List.getElem_cons_succ, List.setIfInBounds_toArray, List.set_cons_zero, List.set_cons_succ])
        refine wpDet_take ?vE8 (PT3.stays wB b10 b11 (⟨op, i, nn, bq, bl, bc, kq, kl, kc, xb, xk⟩ : Dv) (⟨op, i, nn, p1, bl, c1, kq, kl, kc, xb, xk⟩ : Dv) p1 c1 p2 c2) (fun _ h => ⟨h.1, _, h.2.1⟩) (i := 8) rfl (by kernel_rfl) (by kernel_rfl) (by kernel_rfl) (by kernel_rfl) (fun _ _ _ h => h) (Gives.value (by rfl) ?yE8) ?rE8
        case yE8 => (intro w' hSw; (try dsimp only at hSw); go_simp; try with_reducible rfl)
        (try simp only [Act.put, List.getElem_toArray, List.getElem_cons_zero, List.getElem_cons_succ, List.setIfInBounds_toArray, List.set_cons_zero, List.set_cons_succ])
        refine wpDet_ready (rs := [9]) (by kernel_rfl) (by simp) (AllDet.cons rfl (fun V hV K hK => ?_) AllDet.nil)
        rw [if_pos (by rfl)]
        refine wp_store_slice 33 _ _ rfl b11 4 p2 kl c2 _ rfl rfl sizeSi hV.2.1.c4 (hV.2.2.1 4) ?_
        refine hK.out (fun U => PT3 wB b10 b11 (⟨op, i, nn, bq, bl, bc, kq, kl, kc, xb, xk⟩ : Dv) (⟨op, i, nn, p1, bl, c1, p2, kl, c2, xb, xk⟩ : Dv) p1 c1 p2 c2 U) _ _ (PT3.stays wB b10 b11 (⟨op, i, nn, bq, bl, bc, kq, kl, kc, xb, xk⟩ : Dv) (⟨op, i, nn, p1, bl, c1, p2, kl, c2, xb, xk⟩ : Dv) p1 c1 p2 c2) (fun _ _ h => ⟨h.1, _, h.2.1⟩) (PT3.put4 hV hne11 hwB10 hwB11) ?_
        clear hK K hV
        (try simp only [Act.put, List.getElem_toArray, List.getElem_cons_zero, List.getElem_cons_succ, List.setIfInBounds_toArray, List.set_cons_zero, List.set_cons_succ])
        refine wpDet_done (by kernel_rfl) (fun w8 hV8 => ?_) _
        obtain ⟨own1, hS8⟩ := St.init hBo hBr hbA HB.out HB10.out HB11.out hV8 rfl rfl rfl rfl rfl rfl rfl rfl
        clear hV8 hS0
        have hS8 := St.stays _ _ _ _ _ _ _ _ _ _ _ _ _ _ _ hS8 (Below.refl w8.heap.size w8).drew
        have hpre := hBo.da.pre
        have hgr10 : b10 ≠ w1.heap.size := by have := hBo.rd.rc.lt; have := HB10.out; omega
        have hgr11 : b11 ≠ w1.heap.size := by have := hBo.rd.rc.lt; have := HB11.out; omega
        have hok1 := playN_ok hl s2 (pd0_ok hR1 hR2) (k + 1) (by omega)
        have hby1 := bytesN_le s2 (k + 1) (by omega)
        clear hBo hbA hwB11 hwB10 HB
        generalize playN (pd0 R) ls k = m at *
        go_wp2_with fail
        refine wp_region_det [0, 1, 3, 4, 6, 7] (fun V => (⟨op, i, nn, bq, bl, bc, kq, kl, kc, xb, xk⟩ : Dv).at V b10 0 ∧ (⟨op, i, nn, p1, bl, c1, p2, kl, c2, xb, xk⟩ : Dv).at V b11 0) (St w w.heap.size w1.heap.size b10 b11 wB.heap.size (⟨op, i, nn, bq, bl, bc, kq, kl, kc, xb, xk⟩ : Dv) (⟨op, i, nn, p1, bl, c1, p2, kl, c2, xb, xk⟩ : Dv) own1 d kk m m) (by kernel_rfl) hS8 ?_
        refine wpDet_take ?vH0 (St.stays w w.heap.size w1.heap.size b10 b11 wB.heap.size (⟨op, i, nn, bq, bl, bc, kq, kl, kc, xb, xk⟩ : Dv) (⟨op, i, nn, p1, bl, c1, p2, kl, c2, xb, xk⟩ : Dv) own1 d kk m m) (fun _ h => ⟨h.x10, h.y11⟩) (i := 0) rfl (by kernel_rfl) (by kernel_rfl) (by kernel_rfl) (by kernel_rfl) (fun _ _ _ h => h) (Gives.value (by rfl) ?yH0) ?rH0
        case yH0 => (intro w' hSw; (try dsimp only at hSw); go_simp; try with_reducible rfl)
        (try simp only [Act.put, List.getElem_toArray, List.getElem_cons_zero, List.getElem_cons_succ, List.setIfInBounds_toArray, List.set_cons_zero, List.set_cons_succ])
        refine wpDet_take ?vH1 (St.stays w w.heap.size w1.heap.size b10 b11 wB.heap.size (⟨op, i, nn, bq, bl, bc, kq, kl, kc, xb, xk⟩ : Dv) (⟨op, i, nn, p1, bl, c1, p2, kl, c2, xb, xk⟩ : Dv) own1 d kk m m) (fun _ h => ⟨h.x10, h.y11⟩) (i := 1) rfl (by kernel_rfl) (by kernel_rfl) (by kernel_rfl) (by kernel_rfl) (fun _ _ _ h => h) (Gives.value (by rfl) ?yH1) ?rH1
        case yH1 => (intro w' hSw; obtain ⟨q0, q1, q2, q3, q4⟩ := hSw.2; dsimp only at q0 q1 q2 q3 q4; (try dsimp only at hSw); go_simp; try with_reducible rfl)
        (try simp only [Act.put, List.getElem_toArray, List.getElem_cons_zero, List.getElem_cons_succ, List.setIfInBounds_toArray, List.set_cons_zero, List.set_cons_succ])
        refine wpDet_take ?vH3 (St.stays w w.heap.size w1.heap.size b10 b11 wB.heap.size (⟨op, i, nn, bq, bl, bc, kq, kl, kc, xb, xk⟩ : Dv) (⟨op, i, nn, p1, bl, c1, p2, kl, c2, xb, xk⟩ : Dv) own1 d kk m m) (fun _ h => ⟨h.x10, h.y11⟩) (i := 3) rfl (by kernel_rfl) (by kernel_rfl) (by kernel_rfl) (by kernel_rfl) (fun _ _ _ h => h) (Gives.value (by rfl) ?yH3) ?rH3
        case yH3 => (intro w' hSw; (try dsimp only at hSw); go_simp; try with_reducible rfl)
        (try simp only [Act.put, List.getElem_toArray, List.getElem_cons_zero, List.getElem_cons_succ, List.setIfInBounds_toArray, List.set_cons_zero, List.set_cons_succ])
        refine wpDet_take ?vH4 (St.stays w w.heap.size w1.heap.size b10 b11 wB.heap.size (⟨op, i, nn, bq, bl, bc, kq, kl, kc, xb, xk⟩ : Dv) (⟨op, i, nn, p1, bl, c1, p2, kl, c2, xb, xk⟩ : Dv) own1 d kk m m) (fun _ h => ⟨h.x10, h.y11⟩) (i := 4) rfl (by kernel_rfl) (by kernel_rfl) (by kernel_rfl) (by kernel_rfl) (fun _ _ _ h => h) (Gives.value (by rfl) ?yH4) ?rH4
        case yH4 => (intro w' hSw; obtain ⟨q0, q1, q2, q3, q4⟩ := hSw.1; dsimp only at q0 q1 q2 q3 q4; (try dsimp only at hSw); go_simp; try with_reducible rfl)
        (try simp only [Act.put, List.getElem_toArray, List.getElem_cons_zero, List.getElem_cons_succ, List.setIfInBounds_toArray, List.set_cons_zero, List.set_cons_succ])
        refine wpDet_ready (rs := [2]) (by kernel_rfl) (by simp) (AllDet.cons rfl (fun V hV K hK => ?_) AllDet.nil)
        rw [if_pos (by rfl)]
        have hDo := does_any V w.heap.size _ 1 w.heap.size _ _ _ hV.da hok (by omega) hV.bel.size op i nn p1 bl c1 p2 kl c2 xb xk hV.mb.rd hV.mi.rd (fun z e _ => far_ne hV.da.og (hV.ob z e)) (fun z e _ => far_ne hV.da.og (hV.ok z e)) hsm.1 hsm.2
        refine wp_enterX 15 #[.pointer (some ⟨w.heap.size, 0, none⟩), .agg #[.int .i64 op, .int .i64 i, .int .i64 nn, .slice p1 bl c1, .slice p2 kl c2]] (by first | (go_simp; done) | (go_simp; rfl)) (fun v V' => v = .int .i64 (m.step ⟨op, i, nn, xb, xk⟩).2 ∧ After w.heap.size 1 w.heap.size own1 V V' (m.step ⟨op, i, nn, xb, xk⟩).1) (hDo.mono fun e V' ⟨h1, h2⟩ => ⟨_, h1, rfl, h2⟩) ?_
        rintro v V' ⟨rfl, hAf⟩
        obtain ⟨own2, d2, hst⟩ := hV.does hAf
        refine hK.out (St w w.heap.size w1.heap.size b10 b11 wB.heap.size (⟨op, i, nn, bq, bl, bc, kq, kl, kc, xb, xk⟩ : Dv) (⟨op, i, nn, p1, bl, c1, p2, kl, c2, xb, xk⟩ : Dv) own2 d2 kk (m.step ⟨op, i, nn, xb, xk⟩).1 m) _ _ (St.stays w w.heap.size w1.heap.size b10 b11 wB.heap.size (⟨op, i, nn, bq, bl, bc, kq, kl, kc, xb, xk⟩ : Dv) (⟨op, i, nn, p1, bl, c1, p2, kl, c2, xb, xk⟩ : Dv) own2 d2 kk (m.step ⟨op, i, nn, xb, xk⟩).1 m) (fun _ _ h => ⟨h.x10, h.y11⟩) hst ?_
        clear hK K hDo hV hAf hst
        (try simp only [Act.put, List.getElem_toArray, List.getElem_cons_zero, List.getElem_cons_succ, List.setIfInBounds_toArray, List.set_cons_zero, List.set_cons_succ])
        refine wpDet_ready (rs := [5]) (by kernel_rfl) (by simp) (AllDet.cons rfl (fun V hV K hK => ?_) AllDet.nil)
        rw [if_pos (by rfl)]
        have hDo := also_any V w1.heap.size m kk _ hV.rd hok (by omega) hpre op i nn bq bl bc kq kl kc xb xk (hrd0.b.low hV.bel (Nat.le_refl _)) (hrd0.k.low hV.bel (Nat.le_refl _)) (fun z e h0 => by have := hrd0.b.blk e h0; omega) (fun z e h0 => by have := hrd0.k.blk e h0; omega) hsm.1 hsm.2
        refine wp_enterX 16 #[.pointer (some ⟨w1.heap.size, 0, none⟩), .agg #[.int .i64 op, .int .i64 i, .int .i64 nn, .slice bq bl bc, .slice kq kl kc]] (by first | (go_simp; done) | (go_simp; rfl)) (fun v V' => v = .int .i64 (m.step ⟨op, i, nn, xb, xk⟩).2 ∧ RAfter w1.heap.size kk V V' (m.step ⟨op, i, nn, xb, xk⟩).1) (hDo.mono fun e V' ⟨h1, h2⟩ => ⟨_, h1, rfl, h2⟩) ?_
        rintro v V' ⟨rfl, hAf⟩
        obtain ⟨k3, hst⟩ := hV.also hgr10 hgr11 hAf
        refine hK.out (St w w.heap.size w1.heap.size b10 b11 wB.heap.size (⟨op, i, nn, bq, bl, bc, kq, kl, kc, xb, xk⟩ : Dv) (⟨op, i, nn, p1, bl, c1, p2, kl, c2, xb, xk⟩ : Dv) own2 d2 k3 (m.step ⟨op, i, nn, xb, xk⟩).1 (m.step ⟨op, i, nn, xb, xk⟩).1) _ _ (St.stays w w.heap.size w1.heap.size b10 b11 wB.heap.size (⟨op, i, nn, bq, bl, bc, kq, kl, kc, xb, xk⟩ : Dv) (⟨op, i, nn, p1, bl, c1, p2, kl, c2, xb, xk⟩ : Dv) own2 d2 k3 (m.step ⟨op, i, nn, xb, xk⟩).1 (m.step ⟨op, i, nn, xb, xk⟩).1) (fun _ _ h => ⟨h.x10, h.y11⟩) hst ?_
        clear hK K hDo hV hAf hst
        (try simp only [Act.put, List.getElem_toArray, List.getElem_cons_zero, List.getElem_cons_succ, List.setIfInBounds_toArray, List.set_cons_zero, List.set_cons_succ])
        refine wpDet_take ?vH6 (St.stays w w.heap.size w1.heap.size b10 b11 wB.heap.size (⟨op, i, nn, bq, bl, bc, kq, kl, kc, xb, xk⟩ : Dv) (⟨op, i, nn, p1, bl, c1, p2, kl, c2, xb, xk⟩ : Dv) own2 d2 k3 (m.step ⟨op, i, nn, xb, xk⟩).1 (m.step ⟨op, i, nn, xb, xk⟩).1) (fun _ h => ⟨h.x10, h.y11⟩) (i := 6) rfl (by kernel_rfl) (by kernel_rfl) (by kernel_rfl) (by kernel_rfl) (fun _ _ _ h => h) (Gives.value (by rfl) ?yH6) ?rH6
        case yH6 => (intro w' hSw; (try dsimp only at hSw); go_simp; try with_reducible rfl)
        (try simp only [Act.put, List.getElem_toArray, List.getElem_cons_zero, List.getElem_cons_succ, List.setIfInBounds_toArray, List.set_cons_zero, List.set_cons_succ])
        refine wpDet_take ?vH7 (St.stays w w.heap.size w1.heap.size b10 b11 wB.heap.size (⟨op, i, nn, bq, bl, bc, kq, kl, kc, xb, xk⟩ : Dv) (⟨op, i, nn, p1, bl, c1, p2, kl, c2, xb, xk⟩ : Dv) own2 d2 k3 (m.step ⟨op, i, nn, xb, xk⟩).1 (m.step ⟨op, i, nn, xb, xk⟩).1) (fun _ h => ⟨h.x10, h.y11⟩) (i := 7) rfl (by kernel_rfl) (by kernel_rfl) (by kernel_rfl) (by kernel_rfl) (fun _ _ _ h => h) (Gives.value (by rfl) ?yH7) ?rH7
        case yH7 => (intro w' hSw; (try dsimp only at hSw); go_simp; try with_reducible rfl)
        (try simp only [Act.put, List.getElem_toArray, List.getElem_cons_zero, List.getElem_cons_succ, List.setIfInBounds_toArray, List.set_cons_zero, List.set_cons_succ])
        refine wpDet_done (by kernel_rfl) (fun w9 hV9 => ?_) _
        have eS := HS.out
        rw [← eS] at hV9
        have hSm := hV9.sm
        generalize hm1 : playN (pd0 R) ls (k + 1) = m1 at *
        clear eS HS hV9 hpre hok hby hrd0 hS8 hgr10 hgr11 hne11 HB10 HB11
        have y3 := hSm.y11.c3
        dsimp only at y3
        generalize (m.step ⟨op, i, nn, xb, xk⟩).2 = e1 at *
        go_wp2_with fail
        go_loopw [75] (fun ix wr => ∃ j : Nat, j ≤ bl ∧ ix = .int .i64 j ∧ Sm w w.heap.size w1.heap.size b11 wB.heap.size (⟨op, i, nn, p1, bl, c1, p2, kl, c2, xb, xk⟩ : Dv) own2 d2 k3 m1 wr) (fun ix _ => bl - (intOf ix).toNat)
        case atStart => exact ⟨0, Nat.zero_le _, rfl, hSm⟩
        case round =>
          clear hSm y3
          obtain ⟨j, hj, rfl, hSm⟩ := hrel
          have y3 := hSm.y11.c3
          dsimp only at y3
          by_cases hjl : j < bl
          · have hji : (j : Int) < (bl : Int) := by omega
            obtain ⟨q, hq, _, _, hM⟩ := hSm.mb (show 0 < bl by omega)
            dsimp only at hq hM
            subst hq
            obtain ⟨v, hv⟩ := hM.cells j hjl
            have hfz := hM.free j
            have hSn := fun v => hSm.setB (b := q) (show 0 < bl by omega) rfl j v
            clear hSm hM
            go_wp2_with fail
            go_roundw
            case rel => exact ⟨j + 1, by omega, by go_num, hSn _⟩
            case measure => simp [intOf]; omega
          · obtain rfl : bl = j := by omega
            have y4 := hSm.y11.c4
            dsimp only at y4
            clear y3
            go_wp2_with fail
            go_loopw [89] (fun ix wr => ∃ j : Nat, j ≤ kl ∧ ix = .int .i64 j ∧ Sm w w.heap.size w1.heap.size b11 wB.heap.size (⟨op, i, nn, p1, bl, c1, p2, kl, c2, xb, xk⟩ : Dv) own2 d2 k3 m1 wr) (fun ix _ => kl - (intOf ix).toNat)
            case atStart => exact ⟨0, Nat.zero_le _, rfl, hSm⟩
            case round =>
              clear hSm y4
              obtain ⟨j, hj, rfl, hSm⟩ := hrel
              by_cases hjl : j < kl
              · have hji : (j : Int) < (kl : Int) := by omega
                have y4 := hSm.y11.c4
                dsimp only at y4
                obtain ⟨q, hq, _, _, hM⟩ := hSm.mi (show 0 < kl by omega)
                dsimp only at hq hM
                subst hq
                obtain ⟨v, hv⟩ := hM.cells j hjl
                have hfz := hM.free j
                have hSn := fun v => hSm.setK (b := q) (show 0 < kl by omega) rfl j v
                clear hSm hM
                go_wp2_with fail
                go_roundw
                case rel => exact ⟨j + 1, by omega, by go_num, hSn _⟩
                case measure => simp [intOf]; omega
              · obtain rfl : kl = j := by omega
                have hBo := hSm.bo
                have hBe := hSm.bel
                have hU := hBo.used hok1 (by omega)
                clear hSm
                go_wp2_with fail
                refine hU.mono ?_
                rintro e wU ⟨rfl, hbU⟩
                have hBo := hBo.below hbU
                have hBe := hBe.trans (hbU.mono hBe.size)
                have hV := hBo.rused hok1 (by omega)
                clear hU hbU
                go_wp2_with fail
                refine hV.mono ?_
                rintro e wQ ⟨rfl, hbQ⟩
                have hBo := hBo.below hbQ
                have hBe := hBe.trans (hbQ.mono hBe.size)
                clear hV hbQ
                go_wp2_with fail
                go_loopw [16] (fun ix wr => ∃ j : Nat, j ≤ 10 ∧ ix = .int .i64 ((j : Int) - 1) ∧ Both wr w.heap.size w.heap.size w1.heap.size own2 d2 k3 m1 ∧ Below w.heap.size w wr) (fun ix _ => (9 - intOf ix).toNat)
                case atStart => exact ⟨0, Nat.zero_le _, rfl, hBo, hBe⟩
                case round =>
                  clear hBo hBe
                  obtain ⟨j, hj, rfl, hBo, hBe⟩ := hrel
                  rename World => W0
                  have HE : ∀ (V V' : World), Below W0.heap.size W0 V → Below w.heap.size w V := fun V V' h => hBe.trans (h.mono hBe.size)
                  by_cases hjt : j < 10
                  · have hji : (j : Int) - 1 ≤ 8 := by omega
                    by_cases hbad : m1.down = true ∨ ((j : Int) - 1 < 0 ∨ 8 ≤ (j : Int) - 1)
                    · have hA := hBo.read_bad hok1.r0 _ hbad
                      have hC := hBo.rread_bad _ hbad
                      have hEq0 : Calls Try.prog 21 #[.slice none 0 0, .slice none 0 0] W0 fun e w' => e = .returned (.bool true) ∧ w' = W0 := equal_strs none none 0 0 0 0 [] [] _ (Rd.empty _ _ _ _ (fun _ => rfl)) (Rd.empty _ _ _ _ (fun _ => rfl)) rfl
                      clear hbad
                      generalize badE m1.down = be at *
                      go_wp2_with fail
                      refine hA.mono ?_
                      rintro e V1 ⟨rfl, rfl⟩
                      go_wp2_with fail
                      refine hC.mono ?_
                      rintro e V2 ⟨rfl, rfl⟩
                      clear hA hC HE
                      go_wp2_with fail
                      refine hEq0.mono ?_
                      rintro e V3 ⟨rfl, rfl⟩
                      clear hEq0
                      go_wp2_with fail
                      go_loopw [134] (fun ix wr => ix = .int .i64 0 ∧ Both wr w.heap.size w.heap.size w1.heap.size own2 d2 k3 m1 ∧ Below w.heap.size w wr) (fun ix _ => 0)
                      case atStart => exact ⟨rfl, hBo, hBe⟩
                      case round =>
                        clear hBo hBe
                        obtain ⟨rfl, hBo, hBe⟩ := hrel
                        go_wp2_with fail
                        go_roundw
                        case rel => exact ⟨j + 1, by omega, by first | go_num | (rw [IntKind.wrap_i64]; congr 1; omega), hBo, hBe⟩
                        case measure => simp [intOf]; omega
                    · have hd : m1.down = false := by
                        cases h : m1.down with
                        | true => exact absurd (Or.inl h) hbad
                        | false => rfl
                      obtain ⟨I, hI⟩ : ∃ I : Nat, (j : Int) - 1 = (I : Int) := ⟨j - 1, by omega⟩
                      have hI8 : I < 8 := by omega
                      have hA := Read_own W0 w.heap.size own2 1 w.heap.size d2 m1 hBo.da hok1.r0 hd (hok1.few (by omega)) I hI8
                      rw [← hI] at hA
                      have hCf : ∀ V1 : World, Below W0.heap.size W0 V1 → Calls Try.prog 20 #[.pointer (some ⟨w1.heap.size, 0, none⟩), .int .i64 ((j : Int) - 1)] V1 fun e w' => ∃ p' c', e = .returned (.tuple #[.slice p' (m1.f I).told.length c', .int .i64 0]) ∧ Rd .u8 w' p' (m1.f I).told.length c' (backL (m1.f I).told) ∧ Below V1.heap.size V1 w' ∧ (∀ x, p' = some x → V1.heap.size ≤ x.block) := fun V1 h => by rw [hI]; exact rRead_ok V1 w1.heap.size m1 k3 (hBo.rd.below h) hd I hI8
                      have hxL : (m1.f I).told.length ≤ 549755813888 := Nat.le_trans (hok1.told I hI8) (by omega)
                      clear HE hbad hd hI hI8
                      generalize (m1.f I).told = xs at *
                      go_wp2_with fail
                      refine hA.mono ?_
                      rintro e V1 ⟨q1, cA, rfl, hO, hbV1⟩
                      have hC := hCf V1 hbV1
                      clear hA hCf
                      go_wp2_with fail
                      refine hC.mono ?_
                      rintro e V2 ⟨q2, cB, rfl, hRr, hbV2, hjunk⟩
                      clear hjunk
                      have hEq := equal_strs q1 q2 _ cA _ cB _ _ V2 ((hO.below hbV2).rd) hRr (backL_str _).symm
                      have hM : 0 < xs.length → ∃ q, q1 = some ⟨q, 0, none⟩ ∧ W0.heap.size ≤ q ∧ Mut .u8 V2 q xs.length := fun h0 => by
                        obtain ⟨q, e, h1, _, h3⟩ := (hO.below hbV2).mut h0
                        exact ⟨q, e, h1, h3⟩
                      have hb02 := hbV1.trans (hbV2.mono hbV1.size)
                      clear hC hO hRr hbV1 hbV2
                      generalize xs.length = L at *
                      go_wp2_with fail
                      refine hEq.mono ?_
                      rintro e V3 ⟨rfl, rfl⟩
                      clear hEq
                      go_wp2_with fail
                      go_loopw [134] (fun ix wr => ∃ t : Nat, t ≤ L ∧ ix = .int .i64 t ∧ Below W0.heap.size W0 wr ∧ (0 < L → ∃ q, q1 = some ⟨q, 0, none⟩ ∧ W0.heap.size ≤ q ∧ Mut .u8 wr q L)) (fun ix _ => L - (intOf ix).toNat)
                      case atStart => exact ⟨0, Nat.zero_le _, rfl, hb02, hM⟩
                      case round =>
                        clear hM hb02
                        obtain ⟨t, ht, rfl, hb02, hM⟩ := hrel
                        by_cases htl : t < L
                        · have hti : (t : Int) < (L : Int) := by omega
                          obtain ⟨q, rfl, hq, hM⟩ := hM (by omega)
                          obtain ⟨v, hv⟩ := hM.cells t htl
                          have hfz := hM.free t
                          have hMn := fun v => hM.set t v
                          have hbn := fun v => hb02.trans ((Ch.setCell wr ⟨q, t, none⟩ (.int .u8 v)).below hb02.size (fun j e => by rw [e]; exact hq))
                          clear hM
                          go_wp2_with fail
                          go_roundw
                          case rel => exact ⟨t + 1, by omega, by go_num, hbn _, fun _ => ⟨q, rfl, hq, hMn _⟩⟩
                          case measure => simp [intOf]; omega
                        · obtain rfl : L = t := by omega
                          go_wp2_with fail
                          go_roundw
                          case rel => exact ⟨j + 1, by omega, by first | go_num | (rw [IntKind.wrap_i64]; congr 1; omega), hBo.below hb02, hBe.trans (hb02.mono hBe.size)⟩
                          case measure => simp [intOf]; omega
                  · obtain rfl : j = 10 := by omega
                    go_wp2_with fail
                    go_roundw
                    case rel => exact ⟨k + 1, own2, d2, k3, by omega, by go_num, by rw [hm1]; exact hBo, hBe⟩
                    case measure => simp [intOf]; omega
      · obtain rfl : k = n := by omega
        go_wp2_with fail
        refine (hAw _).mono ?_
        rintro e w5 ⟨rfl, hb5⟩
        have hbE := hBr.trans (hb5.mono hBr.size)
        go_wp2_with fail
        go_ret
        exact ⟨rfl, hbE⟩

end Go.Proofs.Ytcgpdaalehgjdaa.M
