/-
  Own text: the contract of the reference's Unpack.
-/
import Derived.Test.YtddekakihandeaaDoorKOwF
namespace Go.Proofs.YtddekakihandeaaDoor.M
open Go.ChangeShapes Go.WideShapes Go.ChangeAt Go.RowKit

/-- The box of a field, its bits beside it, in a world that has kept all else. -/
def Box (w5 : World) (gb G W m j : Nat) (v : Int) (V : World) : Prop :=
  Arr V (gb + 1) (bitL m) ∧ Arr V G (bitL W) ∧ V.cell? ⟨gb, 0, none⟩ = some (.int .i64 j) ∧ V.cell? ⟨gb, 1, none⟩ = some (.int .i64 v) ∧ V.cell? ⟨gb, 2, none⟩ = some (.bool true) ∧ V.frozen? ⟨gb, 1, none⟩ = false ∧ Below gb w5 V

theorem Box.stays (w5 : World) (gb G W m j : Nat) (v : Int) : Stays (Box w5 gb G W m j v) := fun V V' h hb => by
  have hlt := h.1.lt
  refine ⟨h.1.below hb, h.2.1.below hb, ?_, ?_, ?_, ?_, h.2.2.2.2.2.2.trans (hb.mono (by omega))⟩
  · rw [hb.cell (p := ⟨gb, 0, none⟩) (show gb < _ by omega)]; exact h.2.2.1
  · rw [hb.cell (p := ⟨gb, 1, none⟩) (show gb < _ by omega)]; exact h.2.2.2.1
  · rw [hb.cell (p := ⟨gb, 2, none⟩) (show gb < _ by omega)]; exact h.2.2.2.2.1
  · rw [hb.frozen (p := ⟨gb, 1, none⟩) (show gb < _ by omega)]; exact h.2.2.2.2.2.1

theorem Arr.belowB {w w' : World} {g B : Nat} {bs : List Bool} (h : Arr w g bs) (hb : Below B w w') (hg : g < B) : Arr w' g bs := by
  unfold Arr
  rw [hb.block g hg]
  exact h

set_option linter.unusedSimpArgs false in
set_option maxRecDepth 20000 in
set_option maxHeartbeats 2000000 in
theorem runpack_any (W : Nat) (p : Option Addr) (n c : Nat) (fs : List Fld) (w : World) (hW : W < 18446744073709551616) (hr : RdF w p n c fs) (hok : ∀ f ∈ fs, f.ok) (hn : n ≤ 1048576) :
    Calls Tryd.prog 12 #[.int .u64 W, .slice p n c] w fun e w' => unV (unpackF W fs) e w' n ∧ Below w.heap.size w w' := by
  have hl := hr.len
  obtain ⟨i0, hi0, hz0, hz1, hz2⟩ := info_parts infoF
  have hF := from_any W w hW
  go_enter Tryd.func12, Tryd.ntmps12
  go_wp2_with fail
  refine hF.mono ?_
  rintro e w1 ⟨rfl, hb1⟩
  have hi := info_set (bitL W) (bitL_len _)
  have hzy : (bools (List.replicate 64 false)).size = (bools (bitL W)).size := by rw [bools_size, bools_size, bitL_len]; rfl
  have hY1 : Arr (w1.alloc (.cells (bools (List.replicate 64 false)) 53)) w1.heap.size (List.replicate 64 false) := heap_alloc_new _ _
  have hY2 := hY1.setRow (bitL W)
  have hbt : Below w1.heap.size w1 ((w1.alloc (.cells (bools (List.replicate 64 false)) 53)).setRow w1.heap.size (bools (bitL W))) := ((Below.refl _ _).alloc (Nat.le_refl _) _).trans (below_setRow _ _ _ (Nat.le_refl _))
  have hbb := hb1.trans (hbt.mono hb1.size)
  have hG := hb1.size
  clear hF hbt hb1
  generalize hob : Obj.cells (bools (List.replicate 64 false)) 53 = ob at hY1 hY2 hbb
  rw [zero64] at hob
  subst hob
  go_wp2_with (refine wpList_store_row rfl 53 _ _ rfl w1.heap.size (bools (bitL W)) rfl rfl _ _ hY1 hi hzy (bools_one _) ?_)
  clear hY1
  generalize (w1.alloc _).setRow w1.heap.size (bools (bitL W)) = w2 at hY2 hbb ⊢
  generalize w1.heap.size = G at *
  go_loopw [7, 8, 18] (fun ov tv i wr => ∃ k t : Nat, k ≤ n ∧ t ≤ 64 ∧ i = .int .i64 k ∧ tv = .int .i64 t ∧ OwF wr (G + 1) ov k (upL W fs) ∧ Arr wr G (bitL W) ∧ Hid (wdF 0 fs = wdF t (fs.drop k)) ∧ Hid (upL (W / 2 ^ t) (fs.drop k) = (upL W fs).drop k) ∧ Hid ((upL W fs).all fitB = (upL (W / 2 ^ t) (fs.drop k)).all fitB) ∧ Below w.heap.size w wr) (fun _ _ i _ => n - (intOf i).toNat)
  case atStart => exact ⟨0, 0, Nat.zero_le _, Nat.zero_le _, rfl, rfl, OwF.nil _ _ _, hY2, rfl, by unfold Hid; rw [Nat.pow_zero, Nat.div_one]; rfl, by unfold Hid; rw [Nat.pow_zero, Nat.div_one]; rfl, hbb⟩
  case round =>
    clear hY2 hbb
    obtain ⟨k, t, hk, ht, rfl, rfl, hO, hA, HS, HU, HA, hb⟩ := hrel
    by_cases h : k < n
    · obtain ⟨b, o, rfl, hc⟩ := hr.cells (by omega)
      obtain ⟨h1, h2, h3⟩ := hc k h
      have hlt := World.block_lt_of_cell? _ _ h1
      have g1 : wr.cell? ⟨b, o + k * 3, none⟩ = some (.int .i64 (fs.getD k .z0).b) := by rw [hb.cell (p := ⟨b, o + k * 3, none⟩) hlt]; exact h1
      have g2 : wr.cell? ⟨b, o + k * 3 + 1, none⟩ = some (.int .i64 (fs.getD k .z0).v) := by rw [hb.cell (p := ⟨b, o + k * 3 + 1, none⟩) hlt]; exact h2
      have g3 : wr.cell? ⟨b, o + k * 3 + 2, none⟩ = some (.bool (fs.getD k .z0).s) := by rw [hb.cell (p := ⟨b, o + k * 3 + 2, none⟩) hlt]; exact h3
      have hmem : fs.getD k .z0 ∈ fs := by
        rw [List.getD_eq_getElem?_getD, List.getElem?_eq_getElem (by omega)]
        exact List.getElem_mem (by omega)
      have fo := (hok _ hmem).1
      have hd := drop_fld (fs := fs) (k := k) (by omega)
      have hLk := drop_fld (fs := upL W fs) (k := k) (by rw [upL_len]; omega)
      have hU2 := HU.out
      have hA2 := HA.out
      have hS2 := HS.out
      rw [hd] at hU2 hA2 hS2
      rw [hLk] at hU2
      clear HU HA HS hd h1 h2 h3 hlt hc hr hok hLk hmem
      have hkk : k + 1 ≤ 1048576 := by omega
      generalize fs.getD k .z0 = f at *
      obtain ⟨fb, fv, fsg⟩ := f
      dsimp only at g1 g2 g3 fo
      have hba := (Below.refl wr.heap.size wr).alloc (Nat.le_refl _) (.cells #[.int .i64 fb, .int .i64 fv, .bool fsg] 26)
      have hbw := hb.trans (hba.mono hb.size)
      conv at hS2 => rhs; unfold wdF
      dsimp only at hS2
      by_cases hw1 : fb < 1
      · have HN : Hid (unpackF W fs = none) := by
          unfold Hid; refine unpack_width _ _ ?_; rw [hS2, if_pos (Or.inl hw1)]
        clear hS2 hU2 hA2 hO hA hl
        go_wp2_with fail
        go_ret2
        exact ⟨by rw [HN.out]; rfl, hbw⟩
      · by_cases hw2 : (64 : Int) - (t : Int) < fb
        · have HN : Hid (unpackF W fs = none) := by
            unfold Hid; refine unpack_width _ _ ?_; rw [hS2, if_pos (Or.inr hw2)]
          clear hS2 hU2 hA2 hO hA hl
          go_wp2_with fail
          go_ret2
          exact ⟨by rw [HN.out]; rfl, hbw⟩
        · obtain ⟨B, rfl⟩ := Int.eq_ofNat_of_zero_le (show 0 ≤ fb by omega)
          rw [if_neg (by omega), Int.toNat_natCast] at hS2
          rw [upL_cons] at hU2 hA2
          obtain ⟨hgk, hU4⟩ := List.cons.inj hU2
          rw [List.all_cons] at hA2
          have hdd : W / 2 ^ t / 2 ^ B = W / 2 ^ (t + B) := by rw [Nat.div_div_eq_div_mul, Nat.pow_add]
          rw [hdd] at hU4 hA2
          have HU : Hid (upL (W / 2 ^ (t + B)) (fs.drop (k + 1)) = (upL W fs).drop (k + 1)) := hU4
          have HS : Hid (wdF 0 fs = wdF (t + B) (fs.drop (k + 1))) := hS2
          have hB1 : 1 ≤ B := by omega
          have hB2 : t + B ≤ 64 := by omega
          clear hU2 hU4 hS2 hdd
          have HG : Hid (G < wr.heap.size) := hA.lt
          have hA0 := hA.below hba
          have hX1 : Arr ((wr.alloc (.cells #[.int .i64 (B : Int), .int .i64 fv, .bool fsg] 26)).alloc (.cells (bools (List.replicate 64 false)) 53)) (wr.heap.size + 1) (bitL 0) := by
            have e : bitL 0 = List.replicate 64 false := by decide +kernel
            have e2 : (wr.alloc (.cells #[.int .i64 (B : Int), .int .i64 fv, .bool fsg] 26)).heap.size = wr.heap.size + 1 := by simp
            rw [e, ← e2]
            exact heap_alloc_new _ _
          have hbx : Below (wr.heap.size + 1) (wr.alloc (.cells #[.int .i64 (B : Int), .int .i64 fv, .bool fsg] 26)) ((wr.alloc (.cells #[.int .i64 (B : Int), .int .i64 fv, .bool fsg] 26)).alloc (.cells (bools (List.replicate 64 false)) 53)) := (Below.refl _ _).alloc (by simp) _
          have hA1 := hA0.below (hbx.mono (by simp))
          have d0 : ((wr.alloc (.cells #[.int .i64 (B : Int), .int .i64 fv, .bool fsg] 26)).alloc (.cells (bools (List.replicate 64 false)) 53)).cell? ⟨wr.heap.size, 0, none⟩ = some (.int .i64 B) := by rw [hbx.cell (p := ⟨wr.heap.size, 0, none⟩) (by simp)]; simp
          have d1 : ((wr.alloc (.cells #[.int .i64 (B : Int), .int .i64 fv, .bool fsg] 26)).alloc (.cells (bools (List.replicate 64 false)) 53)).cell? ⟨wr.heap.size, 1, none⟩ = some (.int .i64 fv) := by rw [hbx.cell (p := ⟨wr.heap.size, 1, none⟩) (by simp)]; simp
          have d2 : ((wr.alloc (.cells #[.int .i64 (B : Int), .int .i64 fv, .bool fsg] 26)).alloc (.cells (bools (List.replicate 64 false)) 53)).cell? ⟨wr.heap.size, 2, none⟩ = some (.bool fsg) := by rw [hbx.cell (p := ⟨wr.heap.size, 2, none⟩) (by simp)]; simp
          have f1 : ((wr.alloc (.cells #[.int .i64 (B : Int), .int .i64 fv, .bool fsg] 26)).alloc (.cells (bools (List.replicate 64 false)) 53)).frozen? ⟨wr.heap.size, 1, none⟩ = false := by
            rw [hbx.frozen (p := ⟨wr.heap.size, 1, none⟩) (by simp)]; exact World.frozen?_alloc_at _ _ _ _ rfl
          have hbr := hba.trans (hbx.mono (by simp))
          clear hA0 hba hbx hbw hA
          generalize hob : Obj.cells (bools (List.replicate 64 false)) 53 = ob at hX1 hA1 d0 d1 d2 f1 hbr
          rw [zero64] at hob
          subst hob
          go_wp2_with fail
          generalize (wr.alloc _).alloc _ = W3 at hX1 hA1 d0 d1 d2 f1 hbr ⊢
          generalize hgb : wr.heap.size = gb at *
          obtain ⟨w5, hw5⟩ : ∃ x, x = wr := ⟨_, rfl⟩
          rw [← hw5] at hO hb hbr hgb
          clear hw5 g1 g2 g3
          obtain ⟨y, hy⟩ : ∃ x, x = W / 2 ^ t := ⟨_, rfl⟩
          have HY : Hid (y = W / 2 ^ t) := hy
          rw [← hy] at hgk hA2
          clear hy
          go_loopw [34] (fun i wq => ∃ j : Nat, j ≤ B ∧ i = .int .i64 j ∧ Arr wq (gb + 1) (bitL (y % 2 ^ j)) ∧ Arr wq G (bitL W) ∧ wq.cell? ⟨gb, 0, none⟩ = some (.int .i64 B) ∧ wq.cell? ⟨gb, 1, none⟩ = some (.int .i64 fv) ∧ wq.cell? ⟨gb, 2, none⟩ = some (.bool fsg) ∧ wq.frozen? ⟨gb, 1, none⟩ = false ∧ Below gb w5 wq) (fun i _ => B - (intOf i).toNat)
          case atStart => exact ⟨0, Nat.zero_le _, rfl, by rw [Nat.pow_zero, Nat.mod_one]; exact hX1, hA1, d0, d1, d2, f1, hbr⟩
          case round =>
            clear hX1 hA1 d0 d1 d2 f1 hbr
            obtain ⟨j, hj, rfl, hX, hA, d0, d1, d2, f1, hbr⟩ := hrel
            by_cases hjB : j < B
            · have hcs := hA.cell (i := t + j) (by rw [bitL_len]; omega)
              rw [bitL_get W (by omega), ← bit_div, ← HY.out] at hcs
              have hcx := hX.cell (i := j) (by rw [bitL_len]; omega)
              have hfx := hX.free j
              have hX2 := hX.set j (y.testBit j)
              rw [bit_step] at hX2
              have hA3 := hA.far (gb + 1) j (.bool (y.testBit j)) (by have := HG.out; omega)
              have hne : ∀ i : Nat, (⟨gb + 1, j, none⟩ : Addr) ≠ ⟨gb, i, none⟩ := fun i e => absurd (congrArg Addr.block e) (by simp)
              have e0 : (wr.setCell ⟨gb + 1, j, none⟩ (.bool (y.testBit j))).cell? ⟨gb, 0, none⟩ = some (.int .i64 B) := by
                rw [World.cell?_setCell_other (h := hne 0)]; exact d0
              have e1 : (wr.setCell ⟨gb + 1, j, none⟩ (.bool (y.testBit j))).cell? ⟨gb, 1, none⟩ = some (.int .i64 fv) := by
                rw [World.cell?_setCell_other (h := hne 1)]; exact d1
              have e2 : (wr.setCell ⟨gb + 1, j, none⟩ (.bool (y.testBit j))).cell? ⟨gb, 2, none⟩ = some (.bool fsg) := by
                rw [World.cell?_setCell_other (h := hne 2)]; exact d2
              have e3 : (wr.setCell ⟨gb + 1, j, none⟩ (.bool (y.testBit j))).frozen? ⟨gb, 1, none⟩ = false := by
                rw [World.frozen?_setCell]; exact f1
              have hb5 := hbr.setCell (p := ⟨gb + 1, j, none⟩) (show gb ≤ gb + 1 by omega) (.bool (y.testBit j))
              have hjB1 : (j : Int) < (B : Int) := by omega
              have ht64 : (t : Int) + (j : Int) < 64 := by omega
              clear hX hA d1 d2 f1 hbr
              generalize y.testBit j = yb at *
              generalize (bitL (y % 2 ^ j)).getD j false = ob at hcx
              go_wp2_with fail
              generalize wr.setCell ⟨gb + 1, j, none⟩ (.bool yb) = W5 at hX2 hA3 e0 e1 e2 e3 hb5 ⊢
              go_roundw
              case rel => exact ⟨j + 1, by omega, by go_num, hX2, hA3, e0, e1, e2, e3, hb5⟩
              case measure => simp [intOf]; omega
            · obtain rfl : j = B := by omega
              have hjB1 : ¬ (j : Int) < (j : Int) := by omega
              have hm64 : y % 2 ^ j < 18446744073709551616 := Nat.lt_of_lt_of_le (Nat.mod_lt _ (Nat.pow_pos (by decide))) (pow_le64 (by omega))
              have hWd := word_any (bitL (y % 2 ^ j)) wr (bitL_len _)
              rw [word_bits _ hm64] at hWd
              have hi2 := info_set (bitL (y % 2 ^ j)) (bitL_len _)
              go_wp2_with (refine wpList_load_row rfl 53 _ rfl (gb + 1) rfl _ _ _ _ hX Tryd.underlying53 rfl hi2 ?_)
              refine hWd.mono ?_
              rintro e w6 ⟨rfl, hb6⟩
              have hlt6 := hX.lt
              have hX6 := hX.below hb6
              have hA6 := hA.below hb6
              have e0 : w6.cell? ⟨gb, 0, none⟩ = some (.int .i64 j) := by rw [hb6.cell (p := ⟨gb, 0, none⟩) (show gb < _ by omega)]; exact d0
              have e1 : w6.cell? ⟨gb, 1, none⟩ = some (.int .i64 fv) := by rw [hb6.cell (p := ⟨gb, 1, none⟩) (show gb < _ by omega)]; exact d1
              have e2 : w6.cell? ⟨gb, 2, none⟩ = some (.bool fsg) := by rw [hb6.cell (p := ⟨gb, 2, none⟩) (show gb < _ by omega)]; exact d2
              have e3 : w6.frozen? ⟨gb, 1, none⟩ = false := by rw [hb6.frozen (p := ⟨gb, 1, none⟩) (show gb < _ by omega)]; exact f1
              have hb7 := hbr.trans (hb6.mono (by omega))
              clear hX hA d0 d1 d2 f1 hbr hb6 hWd hlt6
              generalize hm : y % 2 ^ j = m at *
              have hX := hX6.far gb 1 (.int .i64 (wrap64 (m : Int))) (by omega)
              have hA := hA6.far gb 1 (.int .i64 (wrap64 (m : Int))) (by have := HG.out; omega)
              have d0 : (w6.setCell ⟨gb, 1, none⟩ (.int .i64 (wrap64 (m : Int)))).cell? ⟨gb, 0, none⟩ = some (.int .i64 j) := by
                rw [World.cell?_setCell_other (h := fun e => absurd (congrArg Addr.off e) (by simp))]; exact e0
              have d1 : (w6.setCell ⟨gb, 1, none⟩ (.int .i64 (wrap64 (m : Int)))).cell? ⟨gb, 1, none⟩ = some (.int .i64 (wrap64 (m : Int))) := World.cell?_setCell_same _ _ _ e1
              have d2 : (w6.setCell ⟨gb, 1, none⟩ (.int .i64 (wrap64 (m : Int)))).cell? ⟨gb, 2, none⟩ = some (.bool fsg) := by
                rw [World.cell?_setCell_other (h := fun e => absurd (congrArg Addr.off e) (by simp))]; exact e2
              have f1 : (w6.setCell ⟨gb, 1, none⟩ (.int .i64 (wrap64 (m : Int)))).frozen? ⟨gb, 1, none⟩ = false := by
                rw [World.frozen?_setCell]; exact e3
              have hbr := hb7.setCell (p := ⟨gb, 1, none⟩) (Nat.le_refl gb) (.int .i64 (wrap64 (m : Int)))
              clear hX6 hA6 hb7
              cases fsg with
              | false =>
                rw [valF_un, hm] at hgk hA2
                have hfu := fit_un y j (by omega)
                rw [hm] at hfu
                rw [hfu] at hA2
                by_cases hvn : 0 ≤ wrap64 (m : Int)
                · have HA : Hid ((upL W fs).all fitB = (upL (W / 2 ^ (t + j)) (fs.drop (k + 1))).all fitB) := by
                    unfold Hid; rw [hA2, decide_eq_true hvn, Bool.true_and]
                  have hvn1 : ¬ wrap64 (m : Int) < 0 := Int.not_lt.2 hvn
                  clear hA2 hfu
                  generalize hv1 : wrap64 (m : Int) = vv at *
                  generalize hw7 : w6.setCell ⟨gb, 1, none⟩ (.int .i64 vv) = w7 at *
                  clear hX hi2 hzy hi HY hm
                  have hbz := (Below.refl w7.heap.size w7).alloc (Nat.le_refl _) (.cells #[.int .i64 (j : Int), .int .i64 vv, .bool false] 26)
                  have hO9 := (hO.below (show Below w5.heap.size w5 w7 by rw [hgb]; exact hbr)).below hbz
                  have hA9 := hA.below hbz
                  have hB9 : G + 1 ≤ (w7.alloc (.cells #[.int .i64 (j : Int), .int .i64 vv, .bool false] 26)).heap.size := by have := hA9.lt; omega
                  have hw9 := hb.trans ((hbr.trans (hbz.mono (by have := hbr.size; omega))).mono (by rw [← hgb]; exact hb.size))
                  have k0 : (w7.alloc (.cells #[.int .i64 (j : Int), .int .i64 vv, .bool false] 26)).cell? ⟨w7.heap.size, 0, none⟩ = some (.int .i64 (j : Int)) := by simp
                  have k1 : (w7.alloc (.cells #[.int .i64 (j : Int), .int .i64 vv, .bool false] 26)).cell? ⟨w7.heap.size, 1, none⟩ = some (.int .i64 vv) := by simp
                  have k2 : (w7.alloc (.cells #[.int .i64 (j : Int), .int .i64 vv, .bool false] 26)).cell? ⟨w7.heap.size, 2, none⟩ = some (.bool false) := by simp
                  have HGK : Hid ((⟨(j : Int), vv, false⟩ : Fld) = (upL W fs).getD k .z0) := hgk
                  clear hgk hA hO hbr hbz hb
                  go_wp2_with (refine wpList_appOwF _ rfl (.tmp 69) (.tmp 71) 22 rfl i0 (.agg #[.int .i64 0, .int .i64 0, .bool false]) 24 Tryd.underlying22 hi0 hz0 hz1 hz2 rfl (G + 1) u7 k (upL W fs) rfl hO9 w7.heap.size 1 ⟨(j : Int), vv, false⟩ HGK.out rfl k0 k1 k2 ?c1 ?c2 hB9 ?_)
                  case c1 => omega
                  case c2 => unfold maxLen; omega
                  intro v9 w9 hO10 hb9
                  have hA10 := hA9.belowB hb9 (Nat.lt_succ_self _)
                  have hw10 := hw9.trans (hb9.mono (by omega))
                  clear hO9 hA9 hw9 hb9 k0 k1 k2 d0 d1 d2
                  go_wp2_with fail
                  go_roundw
                  case rel => exact ⟨k + 1, t + j, by omega, hB2, by go_num, by go_num, hO10, hA10, HS, HU, HA, hw10⟩
                  case measure => simp [intOf]; omega
                · have HN : Hid (unpackF W fs = none) := by
                    unfold Hid; refine unpack_fit _ _ ?_; rw [hA2, decide_eq_false hvn, Bool.false_and]
                  have hvn1 : wrap64 (m : Int) < 0 := Int.not_le.1 hvn
                  have hbw := hb.trans (hbr.mono (by rw [← hgb]; exact hb.size))
                  clear hA2 hfu hgk
                  generalize hv1 : wrap64 (m : Int) = vv at *
                  generalize hw7 : w6.setCell ⟨gb, 1, none⟩ (.int .i64 vv) = w7 at *
                  clear hX hi2 hzy hi HY hm
                  go_wp2_with fail
                  go_ret2
                  exact ⟨by rw [HN.out]; rfl, hbw⟩
              | true =>
                rw [valF_sg] at hgk hA2
                have HA : Hid ((upL W fs).all fitB = (upL (W / 2 ^ (t + j)) (fs.drop (k + 1))).all fitB) := by
                  unfold Hid; rw [hA2, fit_sg y j hB1, Bool.true_and]
                have hsm : sgn m j = sgn y j := sgn_mod (by rw [← hm, Nat.mod_mod])
                have cW := fun V => word_any (bitL m) V (bitL_len _)
                rw [word_bits _ hm64] at cW
                have cS := fun V => rsigned_any m j V hm64 hB1 (by omega)
                rw [hsm] at cS
                have hi3 : (Tryd.prog.info? 53).map (·.size) = some ((bitL m).map Value.bool).length := by
                  rw [hi2]; simp [bools]
                clear hA2 hsm
                generalize sgn y j = vv at *
                generalize hv1 : wrap64 (m : Int) = v0 at *
                generalize hw7 : w6.setCell ⟨gb, 1, none⟩ (.int .i64 v0) = w7 at *
                have hS7 : Box w5 gb G W m j v0 w7.drew := Box.stays w5 gb G W m j v0 w7 _ ⟨hX, hA, d0, d1, d2, f1, hbr⟩ (Below.refl _ _).drew
                clear hi2 hzy hi HY hm hX hA hbr f1
                go_wp2_with fail
                clear d0 d1 d2 e0 e1 e2 e3 hw7
                refine wp_region_det [0, 1, 2, 3, 4, 5] (Box w5 gb G W m j v0) (Box w5 gb G W m j v0) (by kernel_rfl) hS7 ?_
                refine wpDet_take _ (Box.stays w5 gb G W m j v0) (fun _ h => h) (i := 0) rfl (by kernel_rfl) (by kernel_rfl) (by kernel_rfl) (by kernel_rfl) (fun _ _ _ h => h) (Gives.of_yields (yieldsIf_load_mid (by rfl) _ _ rfl _ _ rfl _ _ (fun _ h => h.1.range) Tryd.underlying53 rfl hi3)) ?_
                (try simp only [Act.put, List.getElem_toArray, List.getElem_cons_zero, List.getElem_cons_succ, List.setIfInBounds_toArray, List.set_cons_zero, List.set_cons_succ])
                refine wpDet_take (.int .u64 m) (Box.stays w5 gb G W m j v0) (fun _ h => h) (i := 1) rfl (by kernel_rfl) (by kernel_rfl) (by kernel_rfl) (by kernel_rfl) (fun _ _ _ h => h) (Gives.call 25 #[.agg (bools (bitL m))] (by rfl) (fun _ => by first | (go_simp; done) | (go_simp; rfl)) (fun W hW => cW W)) ?_
                (try simp only [Act.put, List.getElem_toArray, List.getElem_cons_zero, List.getElem_cons_succ, List.setIfInBounds_toArray, List.set_cons_zero, List.set_cons_succ])
                refine wpDet_take ?vZ2 (Box.stays w5 gb G W m j v0) (fun _ h => h) (i := 2) rfl (by kernel_rfl) (by kernel_rfl) (by kernel_rfl) (by kernel_rfl) (fun _ _ _ h => h) (Gives.value (by rfl) ?yZ2) ?rZ2
                case yZ2 => (intro w' hSw; (try dsimp only at hSw); go_simp; try with_reducible rfl)
                (try simp only [Act.put, List.getElem_toArray, List.getElem_cons_zero, List.getElem_cons_succ, List.setIfInBounds_toArray, List.set_cons_zero, List.set_cons_succ])
                refine wpDet_take ?vZ3 (Box.stays w5 gb G W m j v0) (fun _ h => h) (i := 3) rfl (by kernel_rfl) (by kernel_rfl) (by kernel_rfl) (by kernel_rfl) (fun _ _ _ h => h) (Gives.value (by rfl) ?yZ3) ?rZ3
                case yZ3 => (intro w' hSw; have hq0 := hSw.2.2.1; (try dsimp only at hSw); go_simp; try with_reducible rfl)
                (try simp only [Act.put, List.getElem_toArray, List.getElem_cons_zero, List.getElem_cons_succ, List.setIfInBounds_toArray, List.set_cons_zero, List.set_cons_succ])
                refine wpDet_take (.int .i64 vv) (Box.stays w5 gb G W m j v0) (fun _ h => h) (i := 4) rfl (by kernel_rfl) (by kernel_rfl) (by kernel_rfl) (by kernel_rfl) (fun _ _ _ h => h) (Gives.call 26 #[.int .u64 m, .int .i64 j] (by rfl) (fun _ => by first | (go_simp; done) | (go_simp; rfl)) (fun W hW => cS W)) ?_
                (try simp only [Act.put, List.getElem_toArray, List.getElem_cons_zero, List.getElem_cons_succ, List.setIfInBounds_toArray, List.set_cons_zero, List.set_cons_succ])
                refine wpDet_take ?vZ5 (Box.stays w5 gb G W m j v0) (fun _ h => h) (i := 5) rfl (by kernel_rfl) (by kernel_rfl) (by kernel_rfl) (by kernel_rfl) (fun _ _ _ h => h) (Gives.value (by rfl) ?yZ5) ?rZ5
                case yZ5 => (intro w' hSw; (try dsimp only at hSw); go_simp; try with_reducible rfl)
                (try simp only [Act.put, List.getElem_toArray, List.getElem_cons_zero, List.getElem_cons_succ, List.setIfInBounds_toArray, List.set_cons_zero, List.set_cons_succ])
                refine wpDet_ready (rs := [6]) (by kernel_rfl) (by simp) (AllDet.cons rfl (fun V hV K hK => ?_) AllDet.nil)
                rw [if_pos (by rfl)]
                refine wp_store_cell 2 _ _ rfl gb 1 .i64 vv _ rfl rfl size64 hV.2.2.2.1 hV.2.2.2.2.2.1 ?_
                have q0 : (V.setCell ⟨gb, 1, none⟩ (.int .i64 vv)).cell? ⟨gb, 0, none⟩ = some (.int .i64 j) := by rw [World.cell?_setCell_other (h := fun e => absurd (congrArg Addr.off e) (by simp))]; exact hV.2.2.1
                have q1 : (V.setCell ⟨gb, 1, none⟩ (.int .i64 vv)).cell? ⟨gb, 1, none⟩ = some (.int .i64 vv) := World.cell?_setCell_same _ _ _ hV.2.2.2.1
                have q2 : (V.setCell ⟨gb, 1, none⟩ (.int .i64 vv)).cell? ⟨gb, 2, none⟩ = some (.bool true) := by rw [World.cell?_setCell_other (h := fun e => absurd (congrArg Addr.off e) (by simp))]; exact hV.2.2.2.2.1
                have q3 : (V.setCell ⟨gb, 1, none⟩ (.int .i64 vv)).frozen? ⟨gb, 1, none⟩ = false := by rw [World.frozen?_setCell]; exact hV.2.2.2.2.2.1
                refine hK.out (Box w5 gb G W m j vv) _ _ (Box.stays w5 gb G W m j vv) (no_lean (by kernel_rfl)) ⟨hV.1.far gb 1 _ (by omega), hV.2.1.far gb 1 _ (by have := HG.out; omega), q0, q1, q2, q3, hV.2.2.2.2.2.2.setCell (p := ⟨gb, 1, none⟩) (Nat.le_refl gb) _⟩ ?_
                clear hK K hV q0 q1 q2 q3
                (try simp only [Act.put, List.getElem_toArray, List.getElem_cons_zero, List.getElem_cons_succ, List.setIfInBounds_toArray, List.set_cons_zero, List.set_cons_succ])
                refine wpDet_done (by kernel_rfl) (fun w8 hV => ?_) _
                obtain ⟨_, hA, d0, d1, d2, _, hbr⟩ := hV
                have hbz := (Below.refl w8.heap.size w8).alloc (Nat.le_refl _) (.cells #[.int .i64 (j : Int), .int .i64 vv, .bool true] 26)
                have hO9 := (hO.below (show Below w5.heap.size w5 w8 by rw [hgb]; exact hbr)).below hbz
                have hA9 := hA.below hbz
                have hB9 : G + 1 ≤ (w8.alloc (.cells #[.int .i64 (j : Int), .int .i64 vv, .bool true] 26)).heap.size := by have := hA9.lt; omega
                have hw9 := hb.trans ((hbr.trans (hbz.mono (by have := hbr.size; omega))).mono (by rw [← hgb]; exact hb.size))
                have k0 : (w8.alloc (.cells #[.int .i64 (j : Int), .int .i64 vv, .bool true] 26)).cell? ⟨w8.heap.size, 0, none⟩ = some (.int .i64 (j : Int)) := by simp
                have k1 : (w8.alloc (.cells #[.int .i64 (j : Int), .int .i64 vv, .bool true] 26)).cell? ⟨w8.heap.size, 1, none⟩ = some (.int .i64 vv) := by simp
                have k2 : (w8.alloc (.cells #[.int .i64 (j : Int), .int .i64 vv, .bool true] 26)).cell? ⟨w8.heap.size, 2, none⟩ = some (.bool true) := by simp
                have HGK : Hid ((⟨(j : Int), vv, true⟩ : Fld) = (upL W fs).getD k .z0) := hgk
                clear hgk hA hO hbr hbz hb
                go_wp2_with (refine wpList_appOwF _ rfl (.tmp 69) (.tmp 71) 22 rfl i0 (.agg #[.int .i64 0, .int .i64 0, .bool false]) 24 Tryd.underlying22 hi0 hz0 hz1 hz2 rfl (G + 1) u7 k (upL W fs) rfl hO9 w8.heap.size 1 ⟨(j : Int), vv, true⟩ HGK.out rfl k0 k1 k2 ?c1 ?c2 hB9 ?_)
                case c1 => omega
                case c2 => unfold maxLen; omega
                intro v9 w9 hO10 hb9
                have hA10 := hA9.belowB hb9 (Nat.lt_succ_self _)
                have hw10 := hw9.trans (hb9.mono (by omega))
                clear hO9 hA9 hw9 hb9 k0 k1 k2 d0 d1 d2
                go_wp2_with fail
                go_roundw
                case rel => exact ⟨k + 1, t + j, by omega, hB2, by go_num, by go_num, hO10, hA10, HS, HU, HA, hw10⟩
                case measure => simp [intOf]; omega
    · obtain rfl : k = n := by omega
      have hd : fs.drop k = [] := List.drop_of_length_le (by omega)
      have hwt := HS.out
      have hall := HA.out
      rw [hd] at hwt hall
      have hU := unpack_eq W t fs hwt
      rw [hall] at hU
      have HU2 : Hid (unpackF W fs = if (decide (W / 2 ^ t = 0) && true) = true then some (upL W fs) else none) := hU
      obtain ⟨q, cq, rfl, hrd⟩ := hO.rd (by rw [upL_len]; omega)
      clear HU HA HS hd hr hl hwt hall hU hO
      go_wp2_with fail
      go_loop [74] (fun i => ∃ q : Nat, q ≤ 64 ∧ i = .int .i64 q ∧ Hid (∀ i, t ≤ i → i < q → W.testBit i = false)) (fun i => 64 - (intOf i).toNat)
      case atStart => exact ⟨0, Nat.zero_le _, rfl, fun i _ h => absurd h (Nat.not_lt_zero _)⟩
      case round =>
        obtain ⟨z, hz, rfl, HZ⟩ := hrel
        by_cases hz64 : z < 64
        · by_cases htz : t ≤ z
          · have hcz := hA.cell (i := z) (by rw [bitL_len]; exact hz64)
            rw [bitL_get W hz64] at hcz
            cases hbz : W.testBit z with
            | true =>
              have HN : Hid (unpackF W fs = none) := by
                unfold Hid; rw [HU2.out, decide_eq_false (over_some W t z htz hbz), Bool.false_and]; rfl
              rw [hbz] at hcz
              clear HU2 HZ hbz hA
              go_wp2_with fail
              go_ret2
              exact ⟨by rw [HN.out]; rfl, hb⟩
            | false =>
              have HZ2 : Hid (∀ i, t ≤ i → i < z + 1 → W.testBit i = false) := fun i h1 h2 => by
                rcases Nat.lt_or_ge i z with h3 | h3
                · exact HZ.out i h1 h3
                · rw [show i = z by omega]; exact hbz
              rw [hbz] at hcz
              clear HU2 HZ hbz hA
              go_wp2_with fail
              go_round
              case rel => exact ⟨z + 1, by omega, by go_num, HZ2⟩
              case measure => simp [intOf]; omega
          · have HZ2 : Hid (∀ i, t ≤ i → i < z + 1 → W.testBit i = false) := fun i h1 h2 => by omega
            have htz1 : ¬ (t : Int) ≤ (z : Int) := by omega
            clear HU2 HZ hA
            go_wp2_with fail
            go_round
            case rel => exact ⟨z + 1, by omega, by go_num, HZ2⟩
            case measure => simp [intOf]; omega
        · obtain rfl : z = 64 := by omega
          have HN : Hid (unpackF W fs = some (upL W fs)) := by
            unfold Hid; rw [HU2.out, decide_eq_true (over_none W t hW HZ.out)]; rfl
          clear HU2 HZ hA
          go_wp2_with fail
          go_ret2
          exact ⟨by rw [HN.out]; exact ⟨_, _, rfl, hrd⟩, hb⟩

end Go.Proofs.YtddekakihandeaaDoor.M
