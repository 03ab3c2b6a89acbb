/-
  Own text: the walk of the statement 'LedgerNobody'.
-/
import Derived.Test.YtjpemcinldjdoaaJBig
import Derived.Test.YtjpemcinldjdoaaJNob
namespace Go.Proofs.Ytjpemcinldjdoaa.M
open Go.ChangeShapes Go.WideShapes Go.ChangeAt Go.RowKit

theorem RdM.none (W : World) : RdM W none 0 0 [] := ⟨rfl, Nat.le_refl _, fun _ => rfl, fun h => absurd h (Nat.lt_irrefl _)⟩

theorem RdJJ.one {w : World} {b : Nat} {p : Option Addr} {n c : Nat} {ls : List Dj} (h0 : w.cell? ⟨b, 0, none⟩ = some (.slice p n c)) (r0 : RdJ w p n c ls) : RdJJ w (some ⟨b, 0, none⟩) 1 [ls] :=
  ⟨rfl, fun _ => ⟨b, 0, rfl, fun j hj => by
    obtain rfl : j = 0 := by omega
    exact ⟨p, n, c, h0, r0⟩⟩⟩

set_option linter.unusedSimpArgs false in
set_option maxRecDepth 20000 in
set_option maxHeartbeats 8000000 in
theorem walk_LedgerNobody (w : World) (xk xn xs xe : Int) (bq : Option Addr) (bl bc : Nat) (raw : Bool) (by_ off : Int) (xb : List Int) (hx : Dj.rd w ⟨xk, xn, xs, xe, bq, bl, bc, raw, by_, off, xb⟩) (ep : Int) :
    Calls Try.prog 3 #[.agg #[.int .i64 xk, .int .i64 xn, .int .i64 xs, .int .i64 xe, .slice bq bl bc, .bool raw, .int .i64 by_, .int .i64 off], .int .i64 ep] w fun r w' => r = .returned (.bool true) ∧ Below w.heap.size w w' := by
  have hW := fun W => awake_any W
  have h0b := below_alloc w (.cells #[.int .i64 xk, .int .i64 xn, .int .i64 xs, .int .i64 xe, .slice bq bl bc, .bool raw, .int .i64 by_, .int .i64 off] 26)
  have h1b := below_alloc (w.alloc (.cells #[.int .i64 xk, .int .i64 xn, .int .i64 xs, .int .i64 xe, .slice bq bl bc, .bool raw, .int .i64 by_, .int .i64 off] 26)) (.cells #[.int .i64 xk, .int .i64 xn, .int .i64 xs, .int .i64 xe, .slice bq bl bc, .bool raw, .int .i64 by_, .int .i64 off] 26)
  have h2b := below_alloc ((w.alloc (.cells #[.int .i64 xk, .int .i64 xn, .int .i64 xs, .int .i64 xe, .slice bq bl bc, .bool raw, .int .i64 by_, .int .i64 off] 26)).alloc (.cells #[.int .i64 xk, .int .i64 xn, .int .i64 xs, .int .i64 xe, .slice bq bl bc, .bool raw, .int .i64 by_, .int .i64 off] 26)) (.cells #[.slice (some ⟨w.heap.size + 1, 0, none⟩) 1 1] 28)
  have hA0 := At.new 26 w #[.int .i64 xk, .int .i64 xn, .int .i64 xs, .int .i64 xe, .slice bq bl bc, .bool raw, .int .i64 by_, .int .i64 off]
  have hA1 := At.moved (g2 := w.heap.size + 1) (by simp) (At.new 26 (w.alloc (.cells #[.int .i64 xk, .int .i64 xn, .int .i64 xs, .int .i64 xe, .slice bq bl bc, .bool raw, .int .i64 by_, .int .i64 off] 26)) #[.int .i64 xk, .int .i64 xn, .int .i64 xs, .int .i64 xe, .slice bq bl bc, .bool raw, .int .i64 by_, .int .i64 off])
  have hA2 := At.moved (g2 := w.heap.size + 1 + 1) (by simp) (At.new 28 ((w.alloc (.cells #[.int .i64 xk, .int .i64 xn, .int .i64 xs, .int .i64 xe, .slice bq bl bc, .bool raw, .int .i64 by_, .int .i64 off] 26)).alloc (.cells #[.int .i64 xk, .int .i64 xn, .int .i64 xs, .int .i64 xe, .slice bq bl bc, .bool raw, .int .i64 by_, .int .i64 off] 26)) #[.slice (some ⟨w.heap.size + 1, 0, none⟩) 1 1])
  have hB1 := h0b.trans (h1b.mono h0b.size)
  have hB2 := hB1.trans (h2b.mono hB1.size)
  have hA02 := (hA0.below h1b).below h2b
  have hx2 : Dj.rd (((w.alloc (.cells #[.int .i64 xk, .int .i64 xn, .int .i64 xs, .int .i64 xe, .slice bq bl bc, .bool raw, .int .i64 by_, .int .i64 off] 26)).alloc (.cells #[.int .i64 xk, .int .i64 xn, .int .i64 xs, .int .i64 xe, .slice bq bl bc, .bool raw, .int .i64 by_, .int .i64 off] 26)).alloc (.cells #[.slice (some ⟨w.heap.size + 1, 0, none⟩) 1 1] 28)) ⟨xk, xn, xs, xe, bq, bl, bc, raw, by_, off, xb⟩ := hx.below hB2
  have hat : Dj.at (((w.alloc (.cells #[.int .i64 xk, .int .i64 xn, .int .i64 xs, .int .i64 xe, .slice bq bl bc, .bool raw, .int .i64 by_, .int .i64 off] 26)).alloc (.cells #[.int .i64 xk, .int .i64 xn, .int .i64 xs, .int .i64 xe, .slice bq bl bc, .bool raw, .int .i64 by_, .int .i64 off] 26)).alloc (.cells #[.slice (some ⟨w.heap.size + 1, 0, none⟩) 1 1] 28)) (w.heap.size + 1) 0 ⟨xk, xn, xs, xe, bq, bl, bc, raw, by_, off, xb⟩ := by have hA12 := hA1.below h2b; exact ⟨hA12.cell 0, hA12.cell 1, hA12.cell 2, hA12.cell 3, hA12.cell 4, hA12.cell 5, hA12.cell 6, hA12.cell 7⟩
  have hJJ : RdJJ (((w.alloc (.cells #[.int .i64 xk, .int .i64 xn, .int .i64 xs, .int .i64 xe, .slice bq bl bc, .bool raw, .int .i64 by_, .int .i64 off] 26)).alloc (.cells #[.int .i64 xk, .int .i64 xn, .int .i64 xs, .int .i64 xe, .slice bq bl bc, .bool raw, .int .i64 by_, .int .i64 off] 26)).alloc (.cells #[.slice (some ⟨w.heap.size + 1, 0, none⟩) 1 1] 28)) (some ⟨w.heap.size + 1 + 1, 0, none⟩) 1 [[⟨xk, xn, xs, xe, bq, bl, bc, raw, by_, off, xb⟩]] := RdJJ.one (hA2.cell 0) (RdJ.one hat hx2)
  have gS := short_any (((w.alloc (.cells #[.int .i64 xk, .int .i64 xn, .int .i64 xs, .int .i64 xe, .slice bq bl bc, .bool raw, .int .i64 by_, .int .i64 off] 26)).alloc (.cells #[.int .i64 xk, .int .i64 xn, .int .i64 xs, .int .i64 xe, .slice bq bl bc, .bool raw, .int .i64 by_, .int .i64 off] 26)).alloc (.cells #[.slice (some ⟨w.heap.size + 1, 0, none⟩) 1 1] 28)) (some ⟨w.heap.size + 1 + 1, 0, none⟩) 1 1 [[⟨xk, xn, xs, xe, bq, bl, bc, raw, by_, off, xb⟩]] hJJ (by decide)
  obtain ⟨c0, c1, c2, c3, c4, c5, c6, c7⟩ := (show Dj.at (w.alloc (.cells #[.int .i64 xk, .int .i64 xn, .int .i64 xs, .int .i64 xe, .slice bq bl bc, .bool raw, .int .i64 by_, .int .i64 off] 26)) w.heap.size 0 ⟨xk, xn, xs, xe, bq, bl, bc, raw, by_, off, xb⟩ from ⟨hA0.cell 0, hA0.cell 1, hA0.cell 2, hA0.cell 3, hA0.cell 4, hA0.cell 5, hA0.cell 6, hA0.cell 7⟩)
  simp only [Nat.zero_add] at c0 c1 c2 c3 c4 c5 c6 c7
  clear hx hA0 hA1 hA2 hB1 h0b h1b h2b hat hJJ
  go_enter Try.func3, Try.ntmps3
  go_wp2_with fail
  refine gS.mono ?_
  rintro o w3 ⟨⟨bb, rfl, _⟩, hb3⟩
  have HB := hB2.trans (hb3.mono hB2.size)
  have hA3 := hA02.below hb3
  have hx3 := hx2.below hb3
  clear gS hb3 hA02 hx2 hB2 c0 c1 c2 c3 c4 c5 c6 c7
  cases bb with
  | false =>
    go_wp2_with fail
    refine (hW _).mono ?_
    rintro o w9 ⟨rfl, hb9⟩
    go_wp2_with fail
    go_ret
    exact ⟨rfl, HB.trans (hb9.mono HB.size)⟩
  | true =>
    have hab := below_alloc w3 (.cells #[.slice none 0 0, .int .i64 0, .slice none 0 0, .int .i64 0] 38)
    have hbb := below_alloc (w3.alloc (.cells #[.slice none 0 0, .int .i64 0, .slice none 0 0, .int .i64 0] 38)) (.cells #[.pointer none, .pointer (some ⟨w3.heap.size, 0, none⟩)] 30)
    have hAL := (At.new 38 w3 #[.slice none 0 0, .int .i64 0, .slice none 0 0, .int .i64 0]).below hbb
    have hAR := At.moved (g2 := w3.heap.size + 1) (by simp) (At.new 30 (w3.alloc (.cells #[.slice none 0 0, .int .i64 0, .slice none 0 0, .int .i64 0] 38)) #[.pointer none, .pointer (some ⟨w3.heap.size, 0, none⟩)])
    have hB4 := hab.trans (hbb.mono hab.size)
    have HB4 := HB.trans (hB4.mono HB.size)
    have hA4 := hA3.below hB4
    have hx4 := hx3.below hB4
    clear hab hbb hB4 HB hA3 hx3
    go_wp2_with fail
    generalize ((w3.alloc (.cells #[.slice none 0 0, .int .i64 0, .slice none 0 0, .int .i64 0] 38)).alloc (.cells #[.pointer none, .pointer (some ⟨w3.heap.size, 0, none⟩)] 30)) = w4 at *
    generalize w3.heap.size = lb at *
    go_loopw [19] (fun i wr => ∃ (k : Nat), k ≤ 2 ∧ i = .int .i64 k ∧ Bl w4 wr) (fun i _ => 2 - (intOf i).toNat)
    case atStart => exact ⟨0, Nat.zero_le _, rfl, Below.refl _ _⟩
    case round =>
      obtain ⟨k, hk, rfl, hb⟩ := hrel
      replace hb := Bl.out hb
      by_cases hkn : k < 2
      · have hki : (k : Int) < 2 := by omega
        have hARr := hAR.below hb
        have hALr := hAL.below hb
        obtain ⟨gv, hgv, hN⟩ : ∃ gv, wr.cell? ⟨lb + 1, k, none⟩ = some gv ∧ Nob wr gv := by
          match k, hkn with
          | 0, _ => exact ⟨_, hARr.cell 0, Or.inl rfl⟩
          | 1, _ => exact ⟨_, hARr.cell 1, Or.inr ⟨lb, rfl, hALr.cell 0⟩⟩
        have hA5 := hA4.below hb
        have hx5 := hx4.below hb
        have g1 := Of_no gv ep wr hN
        clear hAR hAL hA4 hx4 hARr hALr
        go_wp2_with fail
        refine g1.mono ?_
        rintro o w6 ⟨rfl, hb6⟩
        have hbc := below_alloc w6 (.cells #[.int .i64 0, .slice none 0 0] 36)
        have hC7 := At.new 36 w6 #[.int .i64 0, .slice none 0 0]
        have hA7 := (hA5.below hb6).below hbc
        have hx7 := (hx5.below hb6).below hbc
        have hN7 := (hN.below hb6).below hbc
        have hb7a := hb6.trans (hbc.mono hb6.size)
        have hbo := hb.trans (hb7a.mono hb.size)
        clear g1 hb6 hbc hA5 hx5 hN hb7a hb
        go_wp2_with fail
        generalize (w6.alloc (.cells #[.int .i64 0, .slice none 0 0] 36)) = w7 at *
        generalize w6.heap.size = xc at *
        obtain ⟨x0, hxx⟩ : ∃ x0, x0 = w.heap.size := ⟨_, rfl⟩
        rw [← hxx] at hA7 ⊢
        have hS7 : Bl w7 w7.drew := (Below.refl _ _).drew
        refine wp_region_det [0, 1, 3, 6, 7, 8, 10, 12, 13, 14, 15, 16, 18, 19, 20, 21, 22, 23, 24, 26, 27, 28, 29, 31, 32] (fun W => At 26 W x0 #[.int .i64 xk, .int .i64 xn, .int .i64 xs, .int .i64 xe, .slice bq bl bc, .bool raw, .int .i64 by_, .int .i64 off] ∧ At 36 W xc #[.int .i64 0, .slice none 0 0]) (Bl w7) (by kernel_rfl) hS7 ?_
        refine wpDet_take ?vN0 (Bl.stays w7) (fun W h => ⟨hA7.below h, hC7.below h⟩) (i := 0) rfl (by kernel_rfl) (by kernel_rfl) (by kernel_rfl) (by kernel_rfl) (fun _ _ _ h => h) (Gives.value (by rfl) ?yN0) ?rN0
        case yN0 => (intro w' hSw; go_simp; try with_reducible rfl)
        (try simp only [Act.put, List.getElem_toArray, List.getElem_cons_zero, List.getElem_cons_succ, List.setIfInBounds_toArray, List.set_cons_zero, List.set_cons_succ])
        refine wpDet_take _ (Bl.stays w7) (fun W h => ⟨hA7.below h, hC7.below h⟩) (i := 1) rfl (by kernel_rfl) (by kernel_rfl) (by kernel_rfl) (by kernel_rfl) (fun _ _ _ h => h) (Gives.of_yields (yieldsIf_load_mid (by rfl) _ _ rfl _ _ rfl _ _ (fun W h => h.1.range) Try.underlying26 rfl sizeDo)) ?_
        (try simp only [Act.put, List.getElem_toArray, List.getElem_cons_zero, List.getElem_cons_succ, List.setIfInBounds_toArray, List.set_cons_zero, List.set_cons_succ])
        refine wpDet_take _ (Bl.stays w7) (fun W h => ⟨hA7.below h, hC7.below h⟩) (i := 3) rfl (by kernel_rfl) (by kernel_rfl) (by kernel_rfl) (by kernel_rfl) (fun _ _ _ h => h) (Gives.of_yields (yieldsIf_load_mid (by rfl) _ _ rfl _ _ rfl _ _ (fun W h => h.1.range) Try.underlying26 rfl sizeDo)) ?_
        (try simp only [Act.put, List.getElem_toArray, List.getElem_cons_zero, List.getElem_cons_succ, List.setIfInBounds_toArray, List.set_cons_zero, List.set_cons_succ])
        refine wpDet_ready (rs := [2]) (by kernel_rfl) (by simp) (AllDet.cons rfl (fun V hV K hK => ?_) AllDet.nil)
        rw [if_pos (by rfl)]
        refine wp_enterE 8 #[.agg #[.int .i64 xk, .int .i64 xn, .int .i64 xs, .int .i64 xe, .slice bq bl bc, .bool raw, .int .i64 by_, .int .i64 off], .int .i64 0] (by first | (go_simp; done) | (go_simp; rfl)) (fun v W => v = .int .i64 (ixR ⟨xk, xn, xs, xe, bq, bl, bc, raw, by_, off, xb⟩ 0) ∧ Below V.heap.size V W) ((index_any xk xn xs xe bq bl bc raw by_ off xb 0 ⟨Int.le_refl _, by omega⟩ V).mono fun e' w' hh => ⟨_, hh.1, rfl, hh.2⟩) ?_
        rintro v V7 ⟨rfl, hb7⟩
        refine hK.out (Bl w7) _ _ (Bl.stays w7) (fun _ => (fun W h => ⟨hA7.below h, hC7.below h⟩)) (Bl.stays w7 V V7 hV hb7) ?_
        clear hK K hV
        (try simp only [Act.put, List.getElem_toArray, List.getElem_cons_zero, List.getElem_cons_succ, List.setIfInBounds_toArray, List.set_cons_zero, List.set_cons_succ])
        refine wpDet_ready (rs := [4]) (by kernel_rfl) (by simp) (AllDet.cons rfl (fun V hV K hK => ?_) AllDet.nil)
        rw [if_pos (by rfl)]
        refine wp_enterE 9 #[.agg #[.int .i64 xk, .int .i64 xn, .int .i64 xs, .int .i64 xe, .slice bq bl bc, .bool raw, .int .i64 by_, .int .i64 off], .int .i64 1] (by first | (go_simp; done) | (go_simp; rfl)) (fun v W => (∃ p n c, v = .slice p n c) ∧ Below V.heap.size V W) ((data_any ⟨xk, xn, xs, xe, bq, bl, bc, raw, by_, off, xb⟩ 1 ⟨by omega, by omega⟩ V (hx7.below hV)).mono fun e' w' hh => by obtain ⟨v, h1, ⟨p, n, c, h2, _⟩, h3⟩ := hh; exact ⟨v, h1, ⟨p, n, c, h2⟩, h3⟩) ?_
        rintro v V7 ⟨⟨p9, n9, c9, rfl⟩, hb7⟩
        refine hK.out (Bl w7) _ _ (Bl.stays w7) (fun _ => (fun W h => ⟨hA7.below h, hC7.below h⟩)) (Bl.stays w7 V V7 hV hb7) ?_
        clear hK K hV
        (try simp only [Act.put, List.getElem_toArray, List.getElem_cons_zero, List.getElem_cons_succ, List.setIfInBounds_toArray, List.set_cons_zero, List.set_cons_succ])
        refine wpDet_ready (rs := [5]) (by kernel_rfl) (by simp) (AllDet.cons rfl (fun V hV K hK => ?_) AllDet.nil)
        rw [if_pos (by rfl)]
        refine wp_enterE 7 #[gv, .int .i64 (ixR ⟨xk, xn, xs, xe, bq, bl, bc, raw, by_, off, xb⟩ 0), .slice p9 n9 c9] (by first | (go_simp; done) | (go_simp; rfl)) (fun v W => v = .int .i64 6 ∧ W = V) ((Apply_no gv (ixR ⟨xk, xn, xs, xe, bq, bl, bc, raw, by_, off, xb⟩ 0) (.slice p9 n9 c9) V (hN7.below hV)).mono fun e' w' hh => ⟨_, hh.1, rfl, hh.2⟩) ?_
        rintro v V7 ⟨rfl, hw7⟩
        subst V7
        refine hK.out (Bl w7) _ _ (Bl.stays w7) (fun _ => (fun W h => ⟨hA7.below h, hC7.below h⟩)) hV ?_
        clear hK K hV
        (try simp only [Act.put, List.getElem_toArray, List.getElem_cons_zero, List.getElem_cons_succ, List.setIfInBounds_toArray, List.set_cons_zero, List.set_cons_succ])
        refine wpDet_take ?vN6 (Bl.stays w7) (fun W h => ⟨hA7.below h, hC7.below h⟩) (i := 6) rfl (by kernel_rfl) (by kernel_rfl) (by kernel_rfl) (by kernel_rfl) (fun _ _ _ h => h) (Gives.value (by rfl) ?yN6) ?rN6
        case yN6 => (intro w' hSw; go_simp; try with_reducible rfl)
        (try simp only [Act.put, List.getElem_toArray, List.getElem_cons_zero, List.getElem_cons_succ, List.setIfInBounds_toArray, List.set_cons_zero, List.set_cons_succ])
        refine wpDet_take ?vN7 (Bl.stays w7) (fun W h => ⟨hA7.below h, hC7.below h⟩) (i := 7) rfl (by kernel_rfl) (by kernel_rfl) (by kernel_rfl) (by kernel_rfl) (fun _ _ _ h => h) (Gives.value (by rfl) ?yN7) ?rN7
        case yN7 => (intro w' hSw; go_simp; try with_reducible rfl)
        (try simp only [Act.put, List.getElem_toArray, List.getElem_cons_zero, List.getElem_cons_succ, List.setIfInBounds_toArray, List.set_cons_zero, List.set_cons_succ])
        refine wpDet_take ?vN8 (Bl.stays w7) (fun W h => ⟨hA7.below h, hC7.below h⟩) (i := 8) rfl (by kernel_rfl) (by kernel_rfl) (by kernel_rfl) (by kernel_rfl) (fun _ _ _ h => h) (Gives.value (by rfl) ?yN8) ?rN8
        case yN8 => (intro w' hSw; go_simp; try with_reducible rfl)
        (try simp only [Act.put, List.getElem_toArray, List.getElem_cons_zero, List.getElem_cons_succ, List.setIfInBounds_toArray, List.set_cons_zero, List.set_cons_succ])
        refine wpDet_take ?vN10 (Bl.stays w7) (fun W h => ⟨hA7.below h, hC7.below h⟩) (i := 10) rfl (by kernel_rfl) (by kernel_rfl) (by kernel_rfl) (by kernel_rfl) (fun _ _ _ h => h) (Gives.value (by rfl) ?yN10) ?rN10
        case yN10 => (intro w' hSw; go_simp; try with_reducible rfl)
        (try simp only [Act.put, List.getElem_toArray, List.getElem_cons_zero, List.getElem_cons_succ, List.setIfInBounds_toArray, List.set_cons_zero, List.set_cons_succ])
        refine wpDet_ready (rs := [9]) (by kernel_rfl) (by simp) (AllDet.cons rfl (fun V hV K hK => ?_) AllDet.nil)
        rw [if_pos (by rfl)]
        refine wp_enterE 11 #[gv] (by first | (go_simp; done) | (go_simp; rfl)) (fun v W => v = .agg #[.int .i64 0, .slice none 0 0] ∧ Below V.heap.size V W) ((Chain_no gv V (hN7.below hV)).mono fun e' w' hh => ⟨_, hh.1, rfl, hh.2⟩) ?_
        rintro v V7 ⟨rfl, hb7⟩
        refine hK.out (Bl w7) _ _ (Bl.stays w7) (fun _ => (fun W h => ⟨hA7.below h, hC7.below h⟩)) (Bl.stays w7 V V7 hV hb7) ?_
        clear hK K hV
        (try simp only [Act.put, List.getElem_toArray, List.getElem_cons_zero, List.getElem_cons_succ, List.setIfInBounds_toArray, List.set_cons_zero, List.set_cons_succ])
        refine wpDet_ready (rs := [11]) (by kernel_rfl) (by simp) (AllDet.cons rfl (fun V hV K hK => ?_) AllDet.nil)
        rw [if_pos (by rfl)]
        refine wp_enterE 10 #[.agg #[.int .i64 0, .slice none 0 0], .agg #[.int .i64 0, .slice none 0 0]] (by first | (go_simp; done) | (go_simp; rfl)) (fun v W => v = .bool true ∧ Below V.heap.size V W) ((Same_any 0 0 none none 0 0 0 0 [] [] V (RdM.none V) (RdM.none V) (by omega) (by omega)).mono fun e' w' hh => ⟨_, hh.1, rfl, hh.2⟩) ?_
        rintro v V7 ⟨rfl, hb7⟩
        refine hK.out (Bl w7) _ _ (Bl.stays w7) (fun _ => (fun W h => ⟨hA7.below h, hC7.below h⟩)) (Bl.stays w7 V V7 hV hb7) ?_
        clear hK K hV
        (try simp only [Act.put, List.getElem_toArray, List.getElem_cons_zero, List.getElem_cons_succ, List.setIfInBounds_toArray, List.set_cons_zero, List.set_cons_succ])
        refine wpDet_take ?vN12 (Bl.stays w7) (fun W h => ⟨hA7.below h, hC7.below h⟩) (i := 12) rfl (by kernel_rfl) (by kernel_rfl) (by kernel_rfl) (by kernel_rfl) (fun _ _ _ h => h) (Gives.value (by rfl) ?yN12) ?rN12
        case yN12 => (intro w' hSw; go_simp; try with_reducible rfl)
        (try simp only [Act.put, List.getElem_toArray, List.getElem_cons_zero, List.getElem_cons_succ, List.setIfInBounds_toArray, List.set_cons_zero, List.set_cons_succ])
        refine wpDet_take ?vN13 (Bl.stays w7) (fun W h => ⟨hA7.below h, hC7.below h⟩) (i := 13) rfl (by kernel_rfl) (by kernel_rfl) (by kernel_rfl) (by kernel_rfl) (fun _ _ _ h => h) (Gives.value (by rfl) ?yN13) ?rN13
        case yN13 => (intro w' hSw; go_simp; try with_reducible rfl)
        (try simp only [Act.put, List.getElem_toArray, List.getElem_cons_zero, List.getElem_cons_succ, List.setIfInBounds_toArray, List.set_cons_zero, List.set_cons_succ])
        refine wpDet_take ?vN14 (Bl.stays w7) (fun W h => ⟨hA7.below h, hC7.below h⟩) (i := 14) rfl (by kernel_rfl) (by kernel_rfl) (by kernel_rfl) (by kernel_rfl) (fun _ _ _ h => h) (Gives.value (by rfl) ?yN14) ?rN14
        case yN14 => (intro w' hSw; go_simp; try with_reducible rfl)
        (try simp only [Act.put, List.getElem_toArray, List.getElem_cons_zero, List.getElem_cons_succ, List.setIfInBounds_toArray, List.set_cons_zero, List.set_cons_succ])
        refine wpDet_take _ (Bl.stays w7) (fun W h => ⟨hA7.below h, hC7.below h⟩) (i := 15) rfl (by kernel_rfl) (by kernel_rfl) (by kernel_rfl) (by kernel_rfl) (fun _ _ _ h => h) (Gives.of_yields (yieldsIf_load_mid (by rfl) _ _ rfl _ _ rfl _ _ (fun W h => h.2.range) Try.underlying36 rfl sizeC)) ?_
        (try simp only [Act.put, List.getElem_toArray, List.getElem_cons_zero, List.getElem_cons_succ, List.setIfInBounds_toArray, List.set_cons_zero, List.set_cons_succ])
        refine wpDet_take ?vN16 (Bl.stays w7) (fun W h => ⟨hA7.below h, hC7.below h⟩) (i := 16) rfl (by kernel_rfl) (by kernel_rfl) (by kernel_rfl) (by kernel_rfl) (fun _ _ _ h => h) (Gives.value (by rfl) ?yN16) ?rN16
        case yN16 => (intro w' hSw; go_simp; try with_reducible rfl)
        (try simp only [Act.put, List.getElem_toArray, List.getElem_cons_zero, List.getElem_cons_succ, List.setIfInBounds_toArray, List.set_cons_zero, List.set_cons_succ])
        refine wpDet_ready (rs := [17]) (by kernel_rfl) (by simp) (AllDet.cons rfl (fun V hV K hK => ?_) AllDet.nil)
        rw [if_pos (by rfl)]
        refine wp_enterE 10 #[.agg #[.int .i64 0, .slice none 0 0], .agg #[.int .i64 0, .slice none 0 0]] (by first | (go_simp; done) | (go_simp; rfl)) (fun v W => v = .bool true ∧ Below V.heap.size V W) ((Same_any 0 0 none none 0 0 0 0 [] [] V (RdM.none V) (RdM.none V) (by omega) (by omega)).mono fun e' w' hh => ⟨_, hh.1, rfl, hh.2⟩) ?_
        rintro v V7 ⟨rfl, hb7⟩
        refine hK.out (Bl w7) _ _ (Bl.stays w7) (fun _ => (fun W h => ⟨hA7.below h, hC7.below h⟩)) (Bl.stays w7 V V7 hV hb7) ?_
        clear hK K hV
        (try simp only [Act.put, List.getElem_toArray, List.getElem_cons_zero, List.getElem_cons_succ, List.setIfInBounds_toArray, List.set_cons_zero, List.set_cons_succ])
        refine wpDet_take ?vN18 (Bl.stays w7) (fun W h => ⟨hA7.below h, hC7.below h⟩) (i := 18) rfl (by kernel_rfl) (by kernel_rfl) (by kernel_rfl) (by kernel_rfl) (fun _ _ _ h => h) (Gives.value (by rfl) ?yN18) ?rN18
        case yN18 => (intro w' hSw; go_simp; try with_reducible rfl)
        (try simp only [Act.put, List.getElem_toArray, List.getElem_cons_zero, List.getElem_cons_succ, List.setIfInBounds_toArray, List.set_cons_zero, List.set_cons_succ])
        refine wpDet_take ?vN19 (Bl.stays w7) (fun W h => ⟨hA7.below h, hC7.below h⟩) (i := 19) rfl (by kernel_rfl) (by kernel_rfl) (by kernel_rfl) (by kernel_rfl) (fun _ _ _ h => h) (Gives.value (by rfl) ?yN19) ?rN19
        case yN19 => (intro w' hSw; go_simp; try with_reducible rfl)
        (try simp only [Act.put, List.getElem_toArray, List.getElem_cons_zero, List.getElem_cons_succ, List.setIfInBounds_toArray, List.set_cons_zero, List.set_cons_succ])
        refine wpDet_take ?vN20 (Bl.stays w7) (fun W h => ⟨hA7.below h, hC7.below h⟩) (i := 20) rfl (by kernel_rfl) (by kernel_rfl) (by kernel_rfl) (by kernel_rfl) (fun _ _ _ h => h) (Gives.value (by rfl) ?yN20) ?rN20
        case yN20 => (intro w' hSw; go_simp; try with_reducible rfl)
        (try simp only [Act.put, List.getElem_toArray, List.getElem_cons_zero, List.getElem_cons_succ, List.setIfInBounds_toArray, List.set_cons_zero, List.set_cons_succ])
        refine wpDet_take ?vN21 (Bl.stays w7) (fun W h => ⟨hA7.below h, hC7.below h⟩) (i := 21) rfl (by kernel_rfl) (by kernel_rfl) (by kernel_rfl) (by kernel_rfl) (fun _ _ _ h => h) (Gives.value (by rfl) ?yN21) ?rN21
        case yN21 => (intro w' hSw; go_simp; try with_reducible rfl)
        (try simp only [Act.put, List.getElem_toArray, List.getElem_cons_zero, List.getElem_cons_succ, List.setIfInBounds_toArray, List.set_cons_zero, List.set_cons_succ])
        refine wpDet_take ?vN22 (Bl.stays w7) (fun W h => ⟨hA7.below h, hC7.below h⟩) (i := 22) rfl (by kernel_rfl) (by kernel_rfl) (by kernel_rfl) (by kernel_rfl) (fun _ _ _ h => h) (Gives.value (by rfl) ?yN22) ?rN22
        case yN22 => (intro w' hSw; go_simp; try with_reducible rfl)
        (try simp only [Act.put, List.getElem_toArray, List.getElem_cons_zero, List.getElem_cons_succ, List.setIfInBounds_toArray, List.set_cons_zero, List.set_cons_succ])
        refine wpDet_take ?vN23 (Bl.stays w7) (fun W h => ⟨hA7.below h, hC7.below h⟩) (i := 23) rfl (by kernel_rfl) (by kernel_rfl) (by kernel_rfl) (by kernel_rfl) (fun _ _ _ h => h) (Gives.value (by rfl) ?yN23) ?rN23
        case yN23 => (intro w' hSw; go_simp; try with_reducible rfl)
        (try simp only [Act.put, List.getElem_toArray, List.getElem_cons_zero, List.getElem_cons_succ, List.setIfInBounds_toArray, List.set_cons_zero, List.set_cons_succ])
        refine wpDet_take ?vN24 (Bl.stays w7) (fun W h => ⟨hA7.below h, hC7.below h⟩) (i := 24) rfl (by kernel_rfl) (by kernel_rfl) (by kernel_rfl) (by kernel_rfl) (fun _ _ _ h => h) (Gives.value (by rfl) ?yN24) ?rN24
        case yN24 => (intro w' hSw; go_simp; try with_reducible rfl)
        (try simp only [Act.put, List.getElem_toArray, List.getElem_cons_zero, List.getElem_cons_succ, List.setIfInBounds_toArray, List.set_cons_zero, List.set_cons_succ])
        refine wpDet_ready (rs := [25]) (by kernel_rfl) (by simp) (AllDet.cons rfl (fun V hV K hK => ?_) AllDet.nil)
        rw [if_pos (by rfl)]
        refine wp_enterE 12 #[gv] (by first | (go_simp; done) | (go_simp; rfl)) (fun v W => v = .int .i64 0 ∧ W = V) ((At_no gv V (hN7.below hV)).mono fun e' w' hh => ⟨_, hh.1, rfl, hh.2⟩) ?_
        rintro v V7 ⟨rfl, hw7⟩
        subst V7
        refine hK.out (Bl w7) _ _ (Bl.stays w7) (fun _ => (fun W h => ⟨hA7.below h, hC7.below h⟩)) hV ?_
        clear hK K hV
        (try simp only [Act.put, List.getElem_toArray, List.getElem_cons_zero, List.getElem_cons_succ, List.setIfInBounds_toArray, List.set_cons_zero, List.set_cons_succ])
        refine wpDet_take ?vN26 (Bl.stays w7) (fun W h => ⟨hA7.below h, hC7.below h⟩) (i := 26) rfl (by kernel_rfl) (by kernel_rfl) (by kernel_rfl) (by kernel_rfl) (fun _ _ _ h => h) (Gives.value (by rfl) ?yN26) ?rN26
        case yN26 => (intro w' hSw; go_simp; try with_reducible rfl)
        (try simp only [Act.put, List.getElem_toArray, List.getElem_cons_zero, List.getElem_cons_succ, List.setIfInBounds_toArray, List.set_cons_zero, List.set_cons_succ])
        refine wpDet_take ?vN27 (Bl.stays w7) (fun W h => ⟨hA7.below h, hC7.below h⟩) (i := 27) rfl (by kernel_rfl) (by kernel_rfl) (by kernel_rfl) (by kernel_rfl) (fun _ _ _ h => h) (Gives.value (by rfl) ?yN27) ?rN27
        case yN27 => (intro w' hSw; go_simp; try with_reducible rfl)
        (try simp only [Act.put, List.getElem_toArray, List.getElem_cons_zero, List.getElem_cons_succ, List.setIfInBounds_toArray, List.set_cons_zero, List.set_cons_succ])
        refine wpDet_take ?vN28 (Bl.stays w7) (fun W h => ⟨hA7.below h, hC7.below h⟩) (i := 28) rfl (by kernel_rfl) (by kernel_rfl) (by kernel_rfl) (by kernel_rfl) (fun _ _ _ h => h) (Gives.value (by rfl) ?yN28) ?rN28
        case yN28 => (intro w' hSw; go_simp; try with_reducible rfl)
        (try simp only [Act.put, List.getElem_toArray, List.getElem_cons_zero, List.getElem_cons_succ, List.setIfInBounds_toArray, List.set_cons_zero, List.set_cons_succ])
        refine wpDet_take ?vN29 (Bl.stays w7) (fun W h => ⟨hA7.below h, hC7.below h⟩) (i := 29) rfl (by kernel_rfl) (by kernel_rfl) (by kernel_rfl) (by kernel_rfl) (fun _ _ _ h => h) (Gives.value (by rfl) ?yN29) ?rN29
        case yN29 => (intro w' hSw; go_simp; try with_reducible rfl)
        (try simp only [Act.put, List.getElem_toArray, List.getElem_cons_zero, List.getElem_cons_succ, List.setIfInBounds_toArray, List.set_cons_zero, List.set_cons_succ])
        refine wpDet_ready (rs := [30]) (by kernel_rfl) (by simp) (AllDet.cons rfl (fun V hV K hK => ?_) AllDet.nil)
        rw [if_pos (by rfl)]
        refine wp_enterE 13 #[gv] (by first | (go_simp; done) | (go_simp; rfl)) (fun v W => v = .pointer none ∧ W = V) ((Clone_no gv V (hN7.below hV)).mono fun e' w' hh => ⟨_, hh.1, rfl, hh.2⟩) ?_
        rintro v V7 ⟨rfl, hw7⟩
        subst V7
        refine hK.out (Bl w7) _ _ (Bl.stays w7) (fun _ => (fun W h => ⟨hA7.below h, hC7.below h⟩)) hV ?_
        clear hK K hV
        (try simp only [Act.put, List.getElem_toArray, List.getElem_cons_zero, List.getElem_cons_succ, List.setIfInBounds_toArray, List.set_cons_zero, List.set_cons_succ])
        refine wpDet_take ?vN31 (Bl.stays w7) (fun W h => ⟨hA7.below h, hC7.below h⟩) (i := 31) rfl (by kernel_rfl) (by kernel_rfl) (by kernel_rfl) (by kernel_rfl) (fun _ _ _ h => h) (Gives.value (by rfl) ?yN31) ?rN31
        case yN31 => (intro w' hSw; go_simp; try with_reducible rfl)
        (try simp only [Act.put, List.getElem_toArray, List.getElem_cons_zero, List.getElem_cons_succ, List.setIfInBounds_toArray, List.set_cons_zero, List.set_cons_succ])
        refine wpDet_take ?vN32 (Bl.stays w7) (fun W h => ⟨hA7.below h, hC7.below h⟩) (i := 32) rfl (by kernel_rfl) (by kernel_rfl) (by kernel_rfl) (by kernel_rfl) (fun _ _ _ h => h) (Gives.value (by rfl) ?yN32) ?rN32
        case yN32 => (intro w' hSw; go_simp; try with_reducible rfl)
        (try simp only [Act.put, List.getElem_toArray, List.getElem_cons_zero, List.getElem_cons_succ, List.setIfInBounds_toArray, List.set_cons_zero, List.set_cons_succ])
        refine wpDet_done (by kernel_rfl) (fun w8 hV => ?_) _
        have hbf := hbo.trans ((Bl.out hV).mono hbo.size)
        subst hxx
        clear hA7 hC7 hx7 hN7
        go_wp2_with fail
        have hrelN : ∃ (j : Nat), j ≤ 2 ∧ Value.int .i64 ((k : Int) + 1) = Value.int .i64 (j : Int) ∧ Bl w4 w8 := ⟨k + 1, by omega, by go_num, hbf⟩
        first
        | exact ⟨hrelN, by simp [intOf]; omega⟩
        | (go_roundw; (case rel => exact hrelN); (case measure => simp [intOf]; omega))
      · obtain rfl : k = 2 := by omega
        have HB := HB4.trans (hb.mono HB4.size)
        clear hAR hAL hA4 hx4
        go_wp2_with fail
        refine (hW _).mono ?_
        rintro o w9 ⟨rfl, hb9⟩
        go_wp2_with fail
        go_ret
        exact ⟨rfl, HB.trans (hb9.mono HB.size)⟩

end Go.Proofs.Ytjpemcinldjdoaa.M
