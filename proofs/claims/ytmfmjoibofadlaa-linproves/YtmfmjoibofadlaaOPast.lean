/-
  Own text: calls that may be, with sets of them: the walk of pastOf.
-/
import Derived.Test.YtmfmjoibofadlaaOPast0
import Derived.OwnWalk
namespace Go.Proofs.Ytmfmjoibofadlaa.M
open Go.ChangeShapes Go.WideShapes Go.ChangeAt Go.RowKit
set_option linter.unusedSimpArgs false

theorem infoS : (Try.prog.info? 51).map (fun i => (i.zero, i.size, i.bytes)) = some (some (.int .u64 0), 1, 8) := by kernel_rfl

theorem run_makeS (W : World) (n : Nat) (hn : n ≤ 1099511627776) : (Instr.makeSlice 54 (.int .i64 n) (.int .i64 n)).run Try.prog W = .ok (.slice (some ⟨W.heap.size, 0, none⟩) n n) (W.alloc (.cells (nums .u64 (List.replicate n 0)) 51)) := by
  obtain ⟨i, hi, hz, hs, hb⟩ := info_parts infoS
  have h := run_make W 54 51 i _ Try.underlying54 hi hz .i64 .i64 n n (by omega) (by omega) (by rw [hb]; omega) (by omega)
  rw [hs, Int.toNat_natCast, made_sets] at h
  exact h

/-- A past in the making. -/
structure PW (w : World) (p : Option Addr) (n c : Nat) (mu : Nat) (xs : List Int) (W : World) : Prop where
  bel : Below w.heap.size w W
  out : At 56 W w.heap.size #[.slice none 0 0, .int .u64 0, .slice none 0 0]
  row : ArrI 51 .u64 W (w.heap.size + 1) xs
  pst : At 56 W (w.heap.size + 2) #[.slice p n c, .int .u64 mu, .slice (some ⟨w.heap.size + 1, 0, none⟩) n n]

theorem PW.below {w W W' : World} {p : Option Addr} {n c mu : Nat} {xs : List Int} (h : PW w p n c mu xs W) (hb : Below W.heap.size W W') : PW w p n c mu xs W' :=
  ⟨h.bel.trans (hb.mono h.bel.size), h.out.below hb, h.row.below hb, h.pst.below hb⟩

theorem PW.must {w W : World} {p : Option Addr} {n c mu : Nat} {xs : List Int} (h : PW w p n c mu xs W) (x : Nat) : PW w p n c x xs (W.setCell ⟨w.heap.size + 2, 1, none⟩ (.int .u64 (x : Int))) :=
  ⟨h.bel.setCell (p := ⟨w.heap.size + 2, 1, none⟩) (show w.heap.size ≤ w.heap.size + 2 by omega) _, h.out.otherC _ _ _ (by omega), h.row.other _ _ _ (by omega), h.pst.setC 1 (.int .u64 (x : Int))⟩

theorem PW.setRow {w V W : World} {p : Option Addr} {n c mu : Nat} {xs : List Int} (h : PW w p n c mu xs V) {k y : Nat} (hs : BS V (w.heap.size + 1) k y W) : PW w p n c mu (xs.set k (y : Int)) W := by
  obtain ⟨U, h1, h2⟩ := hs
  have g := h.below h1
  refine PW.below (W := U.setCell ⟨w.heap.size + 1, k, none⟩ (.int .u64 (y : Int))) ⟨g.bel.setCell (p := ⟨w.heap.size + 1, k, none⟩) (show w.heap.size ≤ w.heap.size + 1 by omega) _, g.out.otherC _ _ _ (by omega), g.row.set k (y : Int), g.pst.otherC _ _ _ (by omega)⟩ (h2.mono (by simp))

theorem BS.keep {V W : World} {g k y : Nat} (h : BS V g k y W) {B : Nat} {o : Lo} (hx : Bx V B o) (hg : g ≠ B) : Bx W B o := by
  obtain ⟨U, h1, h2⟩ := h
  have hx1 := hx.below h1
  have hl := World.block_lt_of_cell? _ _ hx1.1
  refine Bx.below (w := U.setCell ⟨g, k, none⟩ (.int .u64 (y : Int))) ?_ (h2.mono (by simp))
  obtain ⟨e0, e1, e2, e3, e4⟩ := hx1
  refine ⟨?_, ?_, ?_, ?_, ?_⟩ <;> (rw [World.cell?_setCell_other (h := fun e => hg (congrArg Addr.block e))]; assumption)

theorem Bx.put {W : World} {B : Nat} {o : Lo} (hx : Bx W B o) (g i : Nat) (v : Value) (hg : g ≠ B) : Bx (W.setCell ⟨g, i, none⟩ v) B o := by
  obtain ⟨e0, e1, e2, e3, e4⟩ := hx
  refine ⟨?_, ?_, ?_, ?_, ?_⟩ <;> (rw [World.cell?_setCell_other (h := fun e => hg (congrArg Addr.block e))]; assumption)

theorem sizePast : (Try.prog.info? 56).map (·.size) = some 3 := by kernel_rfl

set_option maxRecDepth 20000 in
set_option maxHeartbeats 4000000 in
theorem pastOf_any (p : Option Addr) (n c : Nat) (L : List Lo) (w : World) (hr : RdO w p n c L) (hn : n ≤ 1099511627776) :
    Calls Try.prog 27 #[.slice p n c] w fun e w' => e = .returned (.agg #[.slice p n c, .int .u64 (musN L n : Int), .slice (some ⟨w.heap.size + 1, 0, none⟩) n n]) ∧ ArrI 51 .u64 w' (w.heap.size + 1) (ahL L) ∧ Below w.heap.size w w' := by
  have hl := hr.len
  have hM := fun V => run_makeS V n hn
  have hP0 : PW w p n c 0 (List.replicate n 0) (((w.alloc (.cells #[.slice none 0 0, .int .u64 0, .slice none 0 0] 56)).alloc (.cells (nums .u64 (List.replicate n 0)) 51)).alloc (.cells #[.slice p n c, .int .u64 0, .slice (some ⟨w.heap.size + 1, 0, none⟩) n n] 56)) := by
    have h1 : (w.alloc (.cells #[.slice none 0 0, .int .u64 0, .slice none 0 0] 56)).heap.size = w.heap.size + 1 := by simp
    have h2 : ((w.alloc (.cells #[.slice none 0 0, .int .u64 0, .slice none 0 0] 56)).alloc (.cells (nums .u64 (List.replicate n 0)) 51)).heap.size = w.heap.size + 2 := by simp
    refine ⟨((below_alloc w _).alloc (by simp) _).alloc (by simp; omega) _, ((At.new _ w _).alloc _).alloc _, ?_, ?_⟩
    · have := ArrI.new 51 .u64 (w.alloc (.cells #[.slice none 0 0, .int .u64 0, .slice none 0 0] 56)) (List.replicate n 0)
      rw [h1] at this
      exact this.alloc _
    · have := At.new 56 ((w.alloc (.cells #[.slice none 0 0, .int .u64 0, .slice none 0 0] 56)).alloc (.cells (nums .u64 (List.replicate n 0)) 51)) #[.slice p n c, .int .u64 0, .slice (some ⟨w.heap.size + 1, 0, none⟩) n n]
      rw [h2] at this
      exact this
  go_enter Try.func27, Try.ntmps27
  go_wp2_with fail
  clear hM
  generalize (((w.alloc (.cells #[.slice none 0 0, .int .u64 0, .slice none 0 0] 56)).alloc (.cells (nums .u64 (List.replicate n 0)) 51)).alloc (.cells #[.slice p n c, .int .u64 0, .slice (some ⟨w.heap.size + 1, 0, none⟩) n n] 56)) = w3 at *
  go_loopw [15] (fun i wr => ∃ k : Nat, k ≤ n ∧ i = .int .i64 k ∧ PW w p n c (musN L k) (ahP L n k 0) wr) (fun i _ => n - (intOf i).toNat)
  case atStart => exact ⟨0, Nat.zero_le _, rfl, by rw [ahP_zero]; exact hP0⟩
  case round =>
    clear hP0
    obtain ⟨k, hk, rfl, hP⟩ := hrel
    by_cases h : k < n
    · obtain ⟨b, o, rfl, hc⟩ := (hr.below hP.bel).cells (by omega)
      obtain ⟨x0, x1, x2, x3, x4⟩ := hc k h
      have hA := fun W => answered_any (L.getD k .z0) W
      have hms : musN L (k + 1) = if (L.getD k .z0).ans = true then musN L k ||| bitN (k : Int) else musN L k := rfl
      have hki : (k : Int) < (n : Int) := by omega
      have hmlt := musN_lt L k
      obtain ⟨oo, hoo⟩ : ∃ oo, oo = L.getD k .z0 := ⟨_, rfl⟩
      have HO : Hid (oo = L.getD k .z0) := hoo
      rw [← hoo] at x0 x1 x2 x3 x4 hA hms
      obtain ⟨ow, os, ov, ob, oe⟩ := oo
      dsimp only at x0 x1 x2 x3 x4
      have hB0 := Bx.new wr ⟨ow, os, ov, ob, oe⟩ 29
      dsimp only at hB0
      have hP1 := hP.below (below_alloc wr (.cells #[.bool ow, .string os, .int .i64 ov, .int .i64 ob, .int .i64 oe] 29))
      have hg5 : w.heap.size + 2 < wr.heap.size := hP.pst.lt
      clear hc hoo hP
      go_wp2_with fail
      generalize hW1 : wr.alloc (.cells #[.bool ow, .string os, .int .i64 ov, .int .i64 ob, .int .i64 oe] 29) = W1 at *
      generalize wr.heap.size = g5 at *
      clear hW1 x0 x1 x2 x3 x4
      refine (hA _).mono ?_
      rintro e w1 ⟨rfl, hb1⟩
      clear hA
      have hP2 := hP1.below hb1
      have hB2 := hB0.below hb1
      clear hB0 hP1 hb1
      have HM : Hid (musN L (k + 1) = if (Lo.mk ow os ov ob oe).ans = true then musN L k ||| bitN (k : Int) else musN L k) := hms
      clear hms
      generalize (Lo.mk ow os ov ob oe).ans = z at *
      cases z with
      | true =>
        have HM2 : Hid (musN L (k + 1) = musN L k ||| bitN (k : Int)) := HM.out
        have hw1 := fun W => with_any (musN L k) (k : Int) W hmlt
        have hc1 : w1.cell? ⟨w.heap.size + 2, 1, none⟩ = some (.int .u64 (musN L k : Int)) := hP2.pst.cell 1
        have hf1 := hP2.pst.free 1
        have hP3 := hP2.must (musN L k ||| bitN (k : Int))
        rw [← HM2.out] at hP3
        rw [← HM2.out] at hw1
        obtain ⟨m1, hm1⟩ : ∃ m1, m1 = musN L (k + 1) := ⟨_, rfl⟩
        have HM1 : Hid (m1 = musN L (k + 1)) := hm1
        rw [← hm1] at hP3 hw1
        generalize musN L k = m0 at *
        clear HM HM2 hP2 hm1
        go_wp2_with fail
        refine (hw1 _).mono ?_
        rintro e w2 ⟨rfl, rfl⟩
        clear hw1
        go_wp2_with fail
        have hB3 := hB2.put (w.heap.size + 2) 1 (.int .u64 (m1 : Int)) (by omega)
        generalize hW2 : World.setCell _ _ _ = W2 at *
        clear hW2 hB2 hc1 hf1
        go_loopw [29] (fun v wr => ∃ j : Nat, j ≤ n ∧ v = .int .i64 j ∧ PW w (some ⟨b, o, none⟩) n c m1 (ahP L n k j) wr ∧ Bx wr g5 ⟨ow, os, ov, ob, oe⟩) (fun v _ => n - (intOf v).toNat)
        case atStart => exact ⟨0, Nat.zero_le _, rfl, hP3, hB3⟩
        case round =>
          clear hP3 hB3
          obtain ⟨j, hj, rfl, hP, hB⟩ := hrel
          by_cases hjn : j < n
          · obtain ⟨b', o', hbo, hc⟩ := (hr.below hP.bel).cells (by omega)
            cases hbo
            obtain ⟨x0, x1, x2, x3, x4⟩ := hc j hjn
            have hJ : ahN L (L.getD k .z0) (j + 1) = if ahd (L.getD j .z0) (L.getD k .z0) = true then ahN L (L.getD k .z0) j ||| bitN (j : Int) else ahN L (L.getD k .z0) j := rfl
            rw [← HO.out] at hJ
            have hgk : (ahP L n k j).getD k 0 = (ahN L (L.getD k .z0) j : Int) := ahP_get L h
            rw [← HO.out] at hgk
            have hylt := ahN_lt L (L.getD k .z0) j
            rw [← HO.out] at hylt
            have hsame := fun hh => ahP_same L (n := n) (k := k) (j := j) hh
            have hset := fun hh => ahP_set L (n := n) (k := k) (j := j) (x := ahN L (L.getD k .z0) (j + 1)) hh
            have hset2 := hset rfl
            rw [← HO.out] at hsame hset2
            clear hset
            have hji : (j : Int) < (n : Int) := by omega
            have hAm := fun W => ahead_any (L.getD j .z0) ⟨ow, os, ov, ob, oe⟩ W
            generalize L.getD j .z0 = q at *
            obtain ⟨qw, qs, qv, qb, qe⟩ := q
            dsimp only at x0 x1 x2 x3 x4 hAm
            have hba := below_alloc wr (.cells #[.bool qw, .string qs, .int .i64 qv, .int .i64 qb, .int .i64 qe] 29)
            have hP1 := hP.below hba
            obtain ⟨y0, y1, y2, y3, y4⟩ := hB.below hba
            have hB1 := hB.below hba
            dsimp only at y0 y1 y2 y3 y4
            clear hc hP hB hba
            go_wp2_with fail
            refine (hAm _).mono ?_
            rintro e V0 ⟨rfl, hb1⟩
            have hP2 := hP1.below hb1
            have hB2 := hB1.below hb1
            clear hAm hP1 hB1 hb1 x0 x1 x2 x3 x4 y0 y1 y2 y3 y4
            have hAx : Hid ((ahP L n k j).getD k 0 = (ahN L ⟨ow, os, ov, ob, oe⟩ j : Int)) := hgk
            clear hgk
            generalize ahd ⟨qw, qs, qv, qb, qe⟩ ⟨ow, os, ov, ob, oe⟩ = zz at *
            cases zz with
            | true =>
              have hJ2 : Hid (ahN L ⟨ow, os, ov, ob, oe⟩ (j + 1) = ahN L ⟨ow, os, ov, ob, oe⟩ j ||| bitN (j : Int)) := hJ
              have zk := hP2.row.cell (i := k) (by rw [ahP_len]; exact h)
              rw [hAx.out] at zk
              have zf := hP2.row.free k
              have zs : V0.cell? ⟨w.heap.size + 1 + 1, 2, none⟩ = some (.slice (some ⟨w.heap.size + 1, 0, none⟩) n n) := hP2.pst.cell 2
              have cW := fun W => with_any (ahN L ⟨ow, os, ov, ob, oe⟩ j) (j : Int) W hylt
              rw [← hJ2.out] at cW
              have HRb : Hid (w.heap.size + 1 = w.heap.size + 1) := rfl
              have HSet : Hid ((ahP L n k j).set k ((ahN L ⟨ow, os, ov, ob, oe⟩ (j + 1) : Nat) : Int) = ahP L n k (j + 1)) := hset2
              clear hsame hset2 hJ hJ2 hAx hylt
              generalize ahN L ⟨ow, os, ov, ob, oe⟩ (j + 1) = y2 at *
              generalize ahN L ⟨ow, os, ov, ob, oe⟩ j = y1 at *
              have hne : w.heap.size + 1 ≠ g5 := by omega
              generalize hg3 : w.heap.size + 1 + 1 = g3 at zs ⊢
              generalize hrb : w.heap.size + 1 = rb at zk zf zs HRb hne ⊢
              have HR : Hid (w.heap.size + 1 = rb) := hrb
              have HG : Hid (w.heap.size + 1 + 1 = g3) := hg3
              clear hrb HRb hg3
              go_wp2_with fail
              have hS0 : Bl V0 V0.drew := (Below.refl _ _).drew
              refine wp_region_det [0, 1, 2, 3, 4, 5, 6, 7, 8, 9, 10] (Bl V0) (Bl V0) (by kernel_rfl) hS0 ?_
              refine wpDet_take ?vP0 (Bl.stays V0) (fun _ h => h) (i := 0) rfl (by kernel_rfl) (by kernel_rfl) (by kernel_rfl) (by kernel_rfl) (fun _ _ _ h => h) (Gives.value (by rfl) ?yP0) ?rP0
              case yP0 => (intro w' hSw; (try dsimp only at hSw); go_simp; try with_reducible rfl)
              (try simp only [Act.put, List.getElem_toArray, List.getElem_cons_zero, List.getElem_cons_succ, List.setIfInBounds_toArray, List.set_cons_zero, List.set_cons_succ])
              refine wpDet_take ?vP1 (Bl.stays V0) (fun _ h => h) (i := 1) rfl (by kernel_rfl) (by kernel_rfl) (by kernel_rfl) (by kernel_rfl) (fun _ _ _ h => h) (Gives.value (by rfl) ?yP1) ?rP1
              case yP1 => (intro w' hSw; have zz0 := ((show Below _ _ _ from hSw).cell (p := ⟨g3, 2, none⟩) (World.block_lt_of_cell? _ _ zs)).trans zs; (try dsimp only at hSw); go_simp; try with_reducible rfl)
              (try simp only [Act.put, List.getElem_toArray, List.getElem_cons_zero, List.getElem_cons_succ, List.setIfInBounds_toArray, List.set_cons_zero, List.set_cons_succ])
              refine wpDet_take ?vP2 (Bl.stays V0) (fun _ h => h) (i := 2) rfl (by kernel_rfl) (by kernel_rfl) (by kernel_rfl) (by kernel_rfl) (fun _ _ _ h => h) (Gives.value (by rfl) ?yP2) ?rP2
              case yP2 => (intro w' hSw; (try dsimp only at hSw); go_simp; try with_reducible rfl)
              (try simp only [Act.put, List.getElem_toArray, List.getElem_cons_zero, List.getElem_cons_succ, List.setIfInBounds_toArray, List.set_cons_zero, List.set_cons_succ])
              refine wpDet_take ?vP3 (Bl.stays V0) (fun _ h => h) (i := 3) rfl (by kernel_rfl) (by kernel_rfl) (by kernel_rfl) (by kernel_rfl) (fun _ _ _ h => h) (Gives.value (by rfl) ?yP3) ?rP3
              case yP3 => (intro w' hSw; (try dsimp only at hSw); go_simp; try with_reducible rfl)
              (try simp only [Act.put, List.getElem_toArray, List.getElem_cons_zero, List.getElem_cons_succ, List.setIfInBounds_toArray, List.set_cons_zero, List.set_cons_succ])
              refine wpDet_take ?vP4 (Bl.stays V0) (fun _ h => h) (i := 4) rfl (by kernel_rfl) (by kernel_rfl) (by kernel_rfl) (by kernel_rfl) (fun _ _ _ h => h) (Gives.value (by rfl) ?yP4) ?rP4
              case yP4 => (intro w' hSw; have zz0 := ((show Below _ _ _ from hSw).cell (p := ⟨g3, 2, none⟩) (World.block_lt_of_cell? _ _ zs)).trans zs; (try dsimp only at hSw); go_simp; try with_reducible rfl)
              (try simp only [Act.put, List.getElem_toArray, List.getElem_cons_zero, List.getElem_cons_succ, List.setIfInBounds_toArray, List.set_cons_zero, List.set_cons_succ])
              refine wpDet_take ?vP5 (Bl.stays V0) (fun _ h => h) (i := 5) rfl (by kernel_rfl) (by kernel_rfl) (by kernel_rfl) (by kernel_rfl) (fun _ _ _ h => h) (Gives.value (by rfl) ?yP5) ?rP5
              case yP5 => (intro w' hSw; (try dsimp only at hSw); go_simp; try with_reducible rfl)
              (try simp only [Act.put, List.getElem_toArray, List.getElem_cons_zero, List.getElem_cons_succ, List.setIfInBounds_toArray, List.set_cons_zero, List.set_cons_succ])
              refine wpDet_take ?vP6 (Bl.stays V0) (fun _ h => h) (i := 6) rfl (by kernel_rfl) (by kernel_rfl) (by kernel_rfl) (by kernel_rfl) (fun _ _ _ h => h) (Gives.value (by rfl) ?yP6) ?rP6
              case yP6 => (intro w' hSw; (try dsimp only at hSw); go_simp; try with_reducible rfl)
              (try simp only [Act.put, List.getElem_toArray, List.getElem_cons_zero, List.getElem_cons_succ, List.setIfInBounds_toArray, List.set_cons_zero, List.set_cons_succ])
              refine wpDet_take ?vP7 (Bl.stays V0) (fun _ h => h) (i := 7) rfl (by kernel_rfl) (by kernel_rfl) (by kernel_rfl) (by kernel_rfl) (fun _ _ _ h => h) (Gives.value (by rfl) ?yP7) ?rP7
              case yP7 => (intro w' hSw; have zz0 := ((show Below _ _ _ from hSw).cell (p := ⟨rb, k, none⟩) (World.block_lt_of_cell? _ _ zk)).trans zk; (try dsimp only at hSw); go_simp; try with_reducible rfl)
              (try simp only [Act.put, List.getElem_toArray, List.getElem_cons_zero, List.getElem_cons_succ, List.setIfInBounds_toArray, List.set_cons_zero, List.set_cons_succ])
              refine wpDet_take ?vP8 (Bl.stays V0) (fun _ h => h) (i := 8) rfl (by kernel_rfl) (by kernel_rfl) (by kernel_rfl) (by kernel_rfl) (fun _ _ _ h => h) (Gives.value (by rfl) ?yP8) ?rP8
              case yP8 => (intro w' hSw; (try dsimp only at hSw); go_simp; try with_reducible rfl)
              (try simp only [Act.put, List.getElem_toArray, List.getElem_cons_zero, List.getElem_cons_succ, List.setIfInBounds_toArray, List.set_cons_zero, List.set_cons_succ])
              refine wpDet_take (.int .u64 (y2 : Int)) (Bl.stays V0) (fun _ h => h) (i := 9) rfl (by kernel_rfl) (by kernel_rfl) (by kernel_rfl) (by kernel_rfl) (fun _ _ _ h => h) (Gives.call 47 #[.int .u64 (y1 : Int), .int .i64 (j : Int)] (by rfl) (fun _ => by first | (go_simp; done) | (go_simp; rfl)) (fun W hW => (cW W).mono fun e w' ⟨h1, h2⟩ => ⟨h1, h2 ▸ Below.refl _ _⟩)) ?_
              (try simp only [Act.put, List.getElem_toArray, List.getElem_cons_zero, List.getElem_cons_succ, List.setIfInBounds_toArray, List.set_cons_zero, List.set_cons_succ])
              refine wpDet_take ?vP10 (Bl.stays V0) (fun _ h => h) (i := 10) rfl (by kernel_rfl) (by kernel_rfl) (by kernel_rfl) (by kernel_rfl) (fun _ _ _ h => h) (Gives.value (by rfl) ?yP10) ?rP10
              case yP10 => (intro w' hSw; (try dsimp only at hSw); go_simp; try with_reducible rfl)
              (try simp only [Act.put, List.getElem_toArray, List.getElem_cons_zero, List.getElem_cons_succ, List.setIfInBounds_toArray, List.set_cons_zero, List.set_cons_succ])
              refine wpDet_ready (rs := [11]) (by kernel_rfl) (by simp) (AllDet.cons rfl (fun V hV K hK => ?_) AllDet.nil)
              rw [if_pos (by rfl)]
              have u0 := ((Bl.out hV).cell (p := ⟨rb, k, none⟩) (World.block_lt_of_cell? _ _ zk)).trans zk
              have uf := ((Bl.out hV).frozen (p := ⟨rb, k, none⟩) (World.block_lt_of_cell? _ _ zk)).trans zf
              refine wp_store_cell 51 _ _ rfl rb k .u64 (y2 : Int) _ rfl rfl sizeSet u0 uf ?_
              have hz : BS V0 rb k y2 (V.setCell ⟨rb, k, none⟩ (.int .u64 (y2 : Int))) := ⟨V, Bl.out hV, Below.refl _ _⟩
              refine hK.out (BS V0 rb k y2) _ _ (BS.stays _ _ _ _) (no_lean (by kernel_rfl)) hz ?_
              clear hK K hV hz u0 uf
              (try simp only [Act.put, List.getElem_toArray, List.getElem_cons_zero, List.getElem_cons_succ, List.setIfInBounds_toArray, List.set_cons_zero, List.set_cons_succ])
              refine wpDet_done (by kernel_rfl) (fun W3 hV => ?_) _
              have e1 := HR.out
              subst e1
              have e2 := HG.out
              subst e2
              have hP4 := hP2.setRow hV
              rw [HSet.out] at hP4
              have hB4 := hV.keep hB2 hne
              clear hP2 hB2 hV zk zf zs cW hS0 HSet
              go_wp2_with fail
              go_roundw
              case rel => exact ⟨j + 1, by omega, by go_num, hP4, hB4⟩
              case measure => simp [intOf]; omega
            | false =>
              have hJ2 : ahN L ⟨ow, os, ov, ob, oe⟩ (j + 1) = ahN L ⟨ow, os, ov, ob, oe⟩ j := hJ
              have hP4 := hP2
              rw [← hsame hJ2] at hP4
              clear hsame hset2 hJ hJ2 hAx hylt hP2
              go_wp2_with fail
              go_roundw
              case rel => exact ⟨j + 1, by omega, by go_num, hP4, hB2⟩
              case measure => simp [intOf]; omega
          · obtain rfl : j = n := by omega
            rw [ahP_next] at hP
            have hP4 : Hid (PW w (some ⟨b, o, none⟩) j c (musN L (k + 1)) (ahP L j (k + 1) 0) wr) := by rw [← HM1.out]; exact hP
            go_wp2_with fail
            go_roundw
            case rel => exact ⟨k + 1, by omega, by go_num, hP4.out⟩
            case measure => simp [intOf]; omega
      | false =>
        have HM1 : Hid (musN L k = musN L (k + 1)) := HM.out.symm
        clear HM
        generalize musN L k = m1 at *
        have hP3 := hP2
        have hB3 := hB2
        clear hP2 hB2
        go_wp2_with fail
        go_loopw [29] (fun v wr => ∃ j : Nat, j ≤ n ∧ v = .int .i64 j ∧ PW w (some ⟨b, o, none⟩) n c m1 (ahP L n k j) wr ∧ Bx wr g5 ⟨ow, os, ov, ob, oe⟩) (fun v _ => n - (intOf v).toNat)
        case atStart => exact ⟨0, Nat.zero_le _, rfl, hP3, hB3⟩
        case round =>
          clear hP3 hB3
          obtain ⟨j, hj, rfl, hP, hB⟩ := hrel
          by_cases hjn : j < n
          · obtain ⟨b', o', hbo, hc⟩ := (hr.below hP.bel).cells (by omega)
            cases hbo
            obtain ⟨x0, x1, x2, x3, x4⟩ := hc j hjn
            have hJ : ahN L (L.getD k .z0) (j + 1) = if ahd (L.getD j .z0) (L.getD k .z0) = true then ahN L (L.getD k .z0) j ||| bitN (j : Int) else ahN L (L.getD k .z0) j := rfl
            rw [← HO.out] at hJ
            have hgk : (ahP L n k j).getD k 0 = (ahN L (L.getD k .z0) j : Int) := ahP_get L h
            rw [← HO.out] at hgk
            have hylt := ahN_lt L (L.getD k .z0) j
            rw [← HO.out] at hylt
            have hsame := fun hh => ahP_same L (n := n) (k := k) (j := j) hh
            have hset := fun hh => ahP_set L (n := n) (k := k) (j := j) (x := ahN L (L.getD k .z0) (j + 1)) hh
            have hset2 := hset rfl
            rw [← HO.out] at hsame hset2
            clear hset
            have hji : (j : Int) < (n : Int) := by omega
            have hAm := fun W => ahead_any (L.getD j .z0) ⟨ow, os, ov, ob, oe⟩ W
            generalize L.getD j .z0 = q at *
            obtain ⟨qw, qs, qv, qb, qe⟩ := q
            dsimp only at x0 x1 x2 x3 x4 hAm
            have hba := below_alloc wr (.cells #[.bool qw, .string qs, .int .i64 qv, .int .i64 qb, .int .i64 qe] 29)
            have hP1 := hP.below hba
            obtain ⟨y0, y1, y2, y3, y4⟩ := hB.below hba
            have hB1 := hB.below hba
            dsimp only at y0 y1 y2 y3 y4
            clear hc hP hB hba
            go_wp2_with fail
            refine (hAm _).mono ?_
            rintro e V0 ⟨rfl, hb1⟩
            have hP2 := hP1.below hb1
            have hB2 := hB1.below hb1
            clear hAm hP1 hB1 hb1 x0 x1 x2 x3 x4 y0 y1 y2 y3 y4
            have hAx : Hid ((ahP L n k j).getD k 0 = (ahN L ⟨ow, os, ov, ob, oe⟩ j : Int)) := hgk
            clear hgk
            generalize ahd ⟨qw, qs, qv, qb, qe⟩ ⟨ow, os, ov, ob, oe⟩ = zz at *
            cases zz with
            | true =>
              have hJ2 : Hid (ahN L ⟨ow, os, ov, ob, oe⟩ (j + 1) = ahN L ⟨ow, os, ov, ob, oe⟩ j ||| bitN (j : Int)) := hJ
              have zk := hP2.row.cell (i := k) (by rw [ahP_len]; exact h)
              rw [hAx.out] at zk
              have zf := hP2.row.free k
              have zs : V0.cell? ⟨w.heap.size + 1 + 1, 2, none⟩ = some (.slice (some ⟨w.heap.size + 1, 0, none⟩) n n) := hP2.pst.cell 2
              have cW := fun W => with_any (ahN L ⟨ow, os, ov, ob, oe⟩ j) (j : Int) W hylt
              rw [← hJ2.out] at cW
              have HRb : Hid (w.heap.size + 1 = w.heap.size + 1) := rfl
              have HSet : Hid ((ahP L n k j).set k ((ahN L ⟨ow, os, ov, ob, oe⟩ (j + 1) : Nat) : Int) = ahP L n k (j + 1)) := hset2
              clear hsame hset2 hJ hJ2 hAx hylt
              generalize ahN L ⟨ow, os, ov, ob, oe⟩ (j + 1) = y2 at *
              generalize ahN L ⟨ow, os, ov, ob, oe⟩ j = y1 at *
              have hne : w.heap.size + 1 ≠ g5 := by omega
              generalize hg3 : w.heap.size + 1 + 1 = g3 at zs ⊢
              generalize hrb : w.heap.size + 1 = rb at zk zf zs HRb hne ⊢
              have HR : Hid (w.heap.size + 1 = rb) := hrb
              have HG : Hid (w.heap.size + 1 + 1 = g3) := hg3
              clear hrb HRb hg3
              go_wp2_with fail
              have hS0 : Bl V0 V0.drew := (Below.refl _ _).drew
              refine wp_region_det [0, 1, 2, 3, 4, 5, 6, 7, 8, 9, 10] (Bl V0) (Bl V0) (by kernel_rfl) hS0 ?_
              refine wpDet_take ?vS0 (Bl.stays V0) (fun _ h => h) (i := 0) rfl (by kernel_rfl) (by kernel_rfl) (by kernel_rfl) (by kernel_rfl) (fun _ _ _ h => h) (Gives.value (by rfl) ?yS0) ?rS0
              case yS0 => (intro w' hSw; (try dsimp only at hSw); go_simp; try with_reducible rfl)
              (try simp only [Act.put, List.getElem_toArray, List.getElem_cons_zero, List.getElem_cons_succ, List.setIfInBounds_toArray, List.set_cons_zero, List.set_cons_succ])
              refine wpDet_take ?vS1 (Bl.stays V0) (fun _ h => h) (i := 1) rfl (by kernel_rfl) (by kernel_rfl) (by kernel_rfl) (by kernel_rfl) (fun _ _ _ h => h) (Gives.value (by rfl) ?yS1) ?rS1
              case yS1 => (intro w' hSw; have zz0 := ((show Below _ _ _ from hSw).cell (p := ⟨g3, 2, none⟩) (World.block_lt_of_cell? _ _ zs)).trans zs; (try dsimp only at hSw); go_simp; try with_reducible rfl)
              (try simp only [Act.put, List.getElem_toArray, List.getElem_cons_zero, List.getElem_cons_succ, List.setIfInBounds_toArray, List.set_cons_zero, List.set_cons_succ])
              refine wpDet_take ?vS2 (Bl.stays V0) (fun _ h => h) (i := 2) rfl (by kernel_rfl) (by kernel_rfl) (by kernel_rfl) (by kernel_rfl) (fun _ _ _ h => h) (Gives.value (by rfl) ?yS2) ?rS2
              case yS2 => (intro w' hSw; (try dsimp only at hSw); go_simp; try with_reducible rfl)
              (try simp only [Act.put, List.getElem_toArray, List.getElem_cons_zero, List.getElem_cons_succ, List.setIfInBounds_toArray, List.set_cons_zero, List.set_cons_succ])
              refine wpDet_take ?vS3 (Bl.stays V0) (fun _ h => h) (i := 3) rfl (by kernel_rfl) (by kernel_rfl) (by kernel_rfl) (by kernel_rfl) (fun _ _ _ h => h) (Gives.value (by rfl) ?yS3) ?rS3
              case yS3 => (intro w' hSw; (try dsimp only at hSw); go_simp; try with_reducible rfl)
              (try simp only [Act.put, List.getElem_toArray, List.getElem_cons_zero, List.getElem_cons_succ, List.setIfInBounds_toArray, List.set_cons_zero, List.set_cons_succ])
              refine wpDet_take ?vS4 (Bl.stays V0) (fun _ h => h) (i := 4) rfl (by kernel_rfl) (by kernel_rfl) (by kernel_rfl) (by kernel_rfl) (fun _ _ _ h => h) (Gives.value (by rfl) ?yS4) ?rS4
              case yS4 => (intro w' hSw; have zz0 := ((show Below _ _ _ from hSw).cell (p := ⟨g3, 2, none⟩) (World.block_lt_of_cell? _ _ zs)).trans zs; (try dsimp only at hSw); go_simp; try with_reducible rfl)
              (try simp only [Act.put, List.getElem_toArray, List.getElem_cons_zero, List.getElem_cons_succ, List.setIfInBounds_toArray, List.set_cons_zero, List.set_cons_succ])
              refine wpDet_take ?vS5 (Bl.stays V0) (fun _ h => h) (i := 5) rfl (by kernel_rfl) (by kernel_rfl) (by kernel_rfl) (by kernel_rfl) (fun _ _ _ h => h) (Gives.value (by rfl) ?yS5) ?rS5
              case yS5 => (intro w' hSw; (try dsimp only at hSw); go_simp; try with_reducible rfl)
              (try simp only [Act.put, List.getElem_toArray, List.getElem_cons_zero, List.getElem_cons_succ, List.setIfInBounds_toArray, List.set_cons_zero, List.set_cons_succ])
              refine wpDet_take ?vS6 (Bl.stays V0) (fun _ h => h) (i := 6) rfl (by kernel_rfl) (by kernel_rfl) (by kernel_rfl) (by kernel_rfl) (fun _ _ _ h => h) (Gives.value (by rfl) ?yS6) ?rS6
              case yS6 => (intro w' hSw; (try dsimp only at hSw); go_simp; try with_reducible rfl)
              (try simp only [Act.put, List.getElem_toArray, List.getElem_cons_zero, List.getElem_cons_succ, List.setIfInBounds_toArray, List.set_cons_zero, List.set_cons_succ])
              refine wpDet_take ?vS7 (Bl.stays V0) (fun _ h => h) (i := 7) rfl (by kernel_rfl) (by kernel_rfl) (by kernel_rfl) (by kernel_rfl) (fun _ _ _ h => h) (Gives.value (by rfl) ?yS7) ?rS7
              case yS7 => (intro w' hSw; have zz0 := ((show Below _ _ _ from hSw).cell (p := ⟨rb, k, none⟩) (World.block_lt_of_cell? _ _ zk)).trans zk; (try dsimp only at hSw); go_simp; try with_reducible rfl)
              (try simp only [Act.put, List.getElem_toArray, List.getElem_cons_zero, List.getElem_cons_succ, List.setIfInBounds_toArray, List.set_cons_zero, List.set_cons_succ])
              refine wpDet_take ?vS8 (Bl.stays V0) (fun _ h => h) (i := 8) rfl (by kernel_rfl) (by kernel_rfl) (by kernel_rfl) (by kernel_rfl) (fun _ _ _ h => h) (Gives.value (by rfl) ?yS8) ?rS8
              case yS8 => (intro w' hSw; (try dsimp only at hSw); go_simp; try with_reducible rfl)
              (try simp only [Act.put, List.getElem_toArray, List.getElem_cons_zero, List.getElem_cons_succ, List.setIfInBounds_toArray, List.set_cons_zero, List.set_cons_succ])
              refine wpDet_take (.int .u64 (y2 : Int)) (Bl.stays V0) (fun _ h => h) (i := 9) rfl (by kernel_rfl) (by kernel_rfl) (by kernel_rfl) (by kernel_rfl) (fun _ _ _ h => h) (Gives.call 47 #[.int .u64 (y1 : Int), .int .i64 (j : Int)] (by rfl) (fun _ => by first | (go_simp; done) | (go_simp; rfl)) (fun W hW => (cW W).mono fun e w' ⟨h1, h2⟩ => ⟨h1, h2 ▸ Below.refl _ _⟩)) ?_
              (try simp only [Act.put, List.getElem_toArray, List.getElem_cons_zero, List.getElem_cons_succ, List.setIfInBounds_toArray, List.set_cons_zero, List.set_cons_succ])
              refine wpDet_take ?vS10 (Bl.stays V0) (fun _ h => h) (i := 10) rfl (by kernel_rfl) (by kernel_rfl) (by kernel_rfl) (by kernel_rfl) (fun _ _ _ h => h) (Gives.value (by rfl) ?yS10) ?rS10
              case yS10 => (intro w' hSw; (try dsimp only at hSw); go_simp; try with_reducible rfl)
              (try simp only [Act.put, List.getElem_toArray, List.getElem_cons_zero, List.getElem_cons_succ, List.setIfInBounds_toArray, List.set_cons_zero, List.set_cons_succ])
              refine wpDet_ready (rs := [11]) (by kernel_rfl) (by simp) (AllDet.cons rfl (fun V hV K hK => ?_) AllDet.nil)
              rw [if_pos (by rfl)]
              have u0 := ((Bl.out hV).cell (p := ⟨rb, k, none⟩) (World.block_lt_of_cell? _ _ zk)).trans zk
              have uf := ((Bl.out hV).frozen (p := ⟨rb, k, none⟩) (World.block_lt_of_cell? _ _ zk)).trans zf
              refine wp_store_cell 51 _ _ rfl rb k .u64 (y2 : Int) _ rfl rfl sizeSet u0 uf ?_
              have hz : BS V0 rb k y2 (V.setCell ⟨rb, k, none⟩ (.int .u64 (y2 : Int))) := ⟨V, Bl.out hV, Below.refl _ _⟩
              refine hK.out (BS V0 rb k y2) _ _ (BS.stays _ _ _ _) (no_lean (by kernel_rfl)) hz ?_
              clear hK K hV hz u0 uf
              (try simp only [Act.put, List.getElem_toArray, List.getElem_cons_zero, List.getElem_cons_succ, List.setIfInBounds_toArray, List.set_cons_zero, List.set_cons_succ])
              refine wpDet_done (by kernel_rfl) (fun W3 hV => ?_) _
              have e1 := HR.out
              subst e1
              have e2 := HG.out
              subst e2
              have hP4 := hP2.setRow hV
              rw [HSet.out] at hP4
              have hB4 := hV.keep hB2 hne
              clear hP2 hB2 hV zk zf zs cW hS0 HSet
              go_wp2_with fail
              go_roundw
              case rel => exact ⟨j + 1, by omega, by go_num, hP4, hB4⟩
              case measure => simp [intOf]; omega
            | false =>
              have hJ2 : ahN L ⟨ow, os, ov, ob, oe⟩ (j + 1) = ahN L ⟨ow, os, ov, ob, oe⟩ j := hJ
              have hP4 := hP2
              rw [← hsame hJ2] at hP4
              clear hsame hset2 hJ hJ2 hAx hylt hP2
              go_wp2_with fail
              go_roundw
              case rel => exact ⟨j + 1, by omega, by go_num, hP4, hB2⟩
              case measure => simp [intOf]; omega
          · obtain rfl : j = n := by omega
            rw [ahP_next] at hP
            have hP4 : Hid (PW w (some ⟨b, o, none⟩) j c (musN L (k + 1)) (ahP L j (k + 1) 0) wr) := by rw [← HM1.out]; exact hP
            go_wp2_with fail
            go_roundw
            case rel => exact ⟨k + 1, by omega, by go_num, hP4.out⟩
            case measure => simp [intOf]; omega
    · obtain rfl : k = n := by omega
      rw [ahP_end hl] at hP
      obtain ⟨o0, o1, o2⟩ := At.three hP.out
      obtain ⟨g0, g1, g2⟩ := At.three hP.pst
      have of := fun i => hP.out.free i
      have hZ : At 56 (((wr.setCell ⟨w.heap.size, 0, none⟩ (.slice p k c)).setCell ⟨w.heap.size, 1, none⟩ (.int .u64 (musN L k : Int))).setCell ⟨w.heap.size, 2, none⟩ (.slice (some ⟨w.heap.size + 1, 0, none⟩) k k)) w.heap.size #[.slice p k c, .int .u64 (musN L k : Int), .slice (some ⟨w.heap.size + 1, 0, none⟩) k k] :=
        ((hP.out.setC 0 (.slice p k c)).setC 1 (.int .u64 (musN L k : Int))).setC 2 (.slice (some ⟨w.heap.size + 1, 0, none⟩) k k)
      have hbb := ((hP.bel.setCell (p := ⟨w.heap.size, 0, none⟩) (Nat.le_refl _) (.slice p k c)).setCell (p := ⟨w.heap.size, 1, none⟩) (Nat.le_refl _) (.int .u64 (musN L k : Int))).setCell (p := ⟨w.heap.size, 2, none⟩) (Nat.le_refl _) (.slice (some ⟨w.heap.size + 1, 0, none⟩) k k)
      have hrw := ((hP.row.other w.heap.size 0 (.slice p k c) (by omega)).other w.heap.size 1 (.int .u64 (musN L k : Int)) (by omega)).other w.heap.size 2 (.slice (some ⟨w.heap.size + 1, 0, none⟩) k k) (by omega)
      clear hP
      go_wp2_with fail
      exact bodyPost_ret (results_cell_row (p := 2) rfl _ _ w.heap.size _ _ _ _ rfl hZ Try.underlying56 rfl sizePast) rfl ⟨rfl, hrw, hbb⟩

end Go.Proofs.Ytmfmjoibofadlaa.M
