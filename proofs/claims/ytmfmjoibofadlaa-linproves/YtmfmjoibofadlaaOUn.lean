/-
  Own text: the open writes that may have to stand next though nobody reads them.
-/
import Derived.Test.YtmfmjoibofadlaaODel
namespace Go.Proofs.Ytmfmjoibofadlaa.M
open Go.ChangeShapes Go.WideShapes Go.ChangeAt Go.RowKit
set_option linter.unusedSimpArgs false

theorem wp_value {P : Program} {op : Oper} {a : Act} {w : World} {K : Act → World → Prop} {Q : Exit → Act → World → Prop} (v : Value) (w' : World) (he : (execOp a.eval op).run P w = .ok (.value v) w') (h : K (a.put op.dst v) w') : op.wp P a w K Q := by
  unfold Oper.wp
  rw [he]
  exact h

/-- All that stood is as it was, and block x holds this number. -/
def BY (w : World) (x v : Nat) (W : World) : Prop := Bl w W ∧ W.cell? ⟨x, 0, none⟩ = some (.int .u64 (v : Int)) ∧ W.frozen? ⟨x, 0, none⟩ = false ∧ w.heap.size ≤ x

theorem BY.stays (w : World) (x v : Nat) : Stays (BY w x v) := fun W W' h hb =>
  ⟨Bl.stays w W W' h.1 hb, by rw [hb.cell (p := ⟨x, 0, none⟩) (World.block_lt_of_cell? _ _ h.2.1)]; exact h.2.1, by rw [hb.frozen (p := ⟨x, 0, none⟩) (World.block_lt_of_cell? _ _ h.2.1)]; exact h.2.2.1, h.2.2.2⟩

theorem frozen_set (V : World) (x i : Nat) (v : Value) (h : V.frozen? ⟨x, 0, none⟩ = false) : (V.setCell ⟨x, i, none⟩ v).frozen? ⟨x, 0, none⟩ = false := by
  rw [World.frozen?_setCell]
  exact h

theorem BY.put {w V : World} {x u : Nat} (h : BY w x u V) (v : Nat) : BY w x v (V.setCell ⟨x, 0, none⟩ (.int .u64 (v : Int))) :=
  ⟨(Bl.out h.1).setCell (p := ⟨x, 0, none⟩) h.2.2.2 _, World.cell?_setCell_same _ _ _ h.2.1, frozen_set V x 0 _ h.2.2.1, h.2.2.2⟩

theorem ixI_none {pr : Int → Bool} : ∀ {xs : List Int} {k : Nat}, (∀ x ∈ xs, pr x = false) → ixI pr k xs = -1
  | [], _, _ => rfl
  | x :: l, k, h => by
    unfold ixI
    rw [if_neg (by rw [h x (by simp)]; decide)]
    exact ixI_none fun y hy => h y (List.mem_cons_of_mem _ hy)

/-- What is left of at most one number. -/
theorem del_any (F : FuncId) (hcf : Cf F) (caps : Array Value) (pr : Int → Bool) (p : Option Addr) (n c : Nat) (xs : List Int) (w : World) (B : Nat) (ho : Ow .i64 3 w B p n c xs) (hn : n ≤ 1) (hB : B ≤ w.heap.size) (hA : AsksI F caps w xs pr) :
    Calls Try.prog 74 #[.slice p n c, .func (.func F) #[] caps] w fun e w' => Below B w w' ∧ ((e = .returned (.slice p n c) ∧ xs.filter (fun i => !pr i) = xs ∧ Ow .i64 3 w' B p n c xs) ∨ (e = .returned (.slice p 0 c) ∧ xs.filter (fun i => !pr i) = [] ∧ (p = none → c = 0))) := by
  have hl := ho.len
  match xs, hl with
  | [], hl =>
    refine (del_keep F hcf caps pr p n c [] w ho.rd (by omega) hA rfl).mono ?_
    rintro e w' ⟨rfl, hb⟩
    exact ⟨hb.mono hB, Or.inl ⟨rfl, rfl, ho.below hb⟩⟩
  | [x], hl =>
    cases hp : pr x with
    | false =>
      refine (del_keep F hcf caps pr p n c [x] w ho.rd (by omega) hA (ixI_none fun y hy => by rw [List.mem_singleton.1 hy]; exact hp)).mono ?_
      rintro e w' ⟨rfl, hb⟩
      exact ⟨hb.mono hB, Or.inl ⟨rfl, by simp [hp], ho.below hb⟩⟩
    | true =>
      obtain rfl : n = 1 := hl.symm
      refine (del_one F hcf caps pr p c x w B ho hB hA hp).mono ?_
      rintro e w' ⟨rfl, hb⟩
      exact ⟨hb, Or.inr ⟨rfl, by simp [hp], ho.rd.nil⟩⟩
  | x :: y :: l, hl => simp at hl; omega

/-- The open writes that may have to stand next though nobody reads them, where there is one write at most. -/
def unF (n : Nat) (L : List Lo) (mu : Nat) (ah : List Int) (d : Nat) (v : ByteArray) (S : List Int) : List Int := (S.filter fun j => hasN (butN mu d) j).filter fun j => openB n L ah d v j

set_option maxRecDepth 20000 in
set_option maxHeartbeats 2000000 in
theorem unread_any (w : World) (h : Nat) (p : Option Addr) (n c : Nat) (q : Option Addr) (e : Nat) (L : List Lo) (mu : Nat) (ah : List Int) (rp : Option Addr) (rn rc : Nat) (R : List Int) (wp : Option Addr) (wn wc : Nat) (S : List Int) (H : Se w h p n c q e L mu ah rp rn rc R wp wn wc S) (hw : wn ≤ 1) (d : Nat) (hd : d < 18446744073709551616) (v : ByteArray) :
    Calls Try.prog 58 #[.pointer (some ⟨h, 0, none⟩), .agg #[.int .u64 d, .string v]] w fun r w' => ∃ p' n' c', r = .returned (.slice p' n' c') ∧ n' ≤ 1 ∧ Rd .i64 w' p' n' c' (unF n L mu ah d v S) ∧ Below w.heap.size w w' := by
  have hb0 := below_alloc w (.cells #[.pointer (some ⟨h, 0, none⟩)] 47)
  have hb1 := below_alloc (w.alloc (.cells #[.pointer (some ⟨h, 0, none⟩)] 47)) (.cells #[.int .u64 d, .string v] 53)
  have hbb := hb0.trans (hb1.mono hb0.size)
  have HS := H.below hbb
  have ks : ((w.alloc (.cells #[.pointer (some ⟨h, 0, none⟩)] 47)).alloc (.cells #[.int .u64 d, .string v] 53)).cell? ⟨w.heap.size, 0, none⟩ = some (.pointer (some ⟨h, 0, none⟩)) := by
    rw [hb1.cell (p := ⟨w.heap.size, 0, none⟩) (by simp)]; simp
  obtain ⟨k0, k1⟩ := point_box (w.alloc (.cells #[.pointer (some ⟨h, 0, none⟩)] 47)) 53 d v
  have hs1 : (w.alloc (.cells #[.pointer (some ⟨h, 0, none⟩)] 47)).heap.size = w.heap.size + 1 := by simp
  rw [hs1] at k0 k1
  have c1 := HS.pa.c1
  have cB := fun W => but_any mu d W H.pa.mul hd
  have HZ : Hid (mu &&& (18446744073709551615 - d) = butN mu d) := rfl
  rw [HZ.out] at cB
  have hz64 : butN mu d < 18446744073709551616 := Nat.lt_of_le_of_lt Nat.and_le_left H.pa.mul
  have HU : Hid (unF n L mu ah d v S = (S.filter fun j => hasN (butN mu d) j).filter fun j => openB n L ah d v j) := rfl
  generalize butN mu d = z at *
  clear HZ H hb0 hb1 hs1
  go_enter Try.func58, Try.ntmps58
  go_wp2_with fail
  generalize hV0 : ((w.alloc (.cells #[.pointer (some ⟨h, 0, none⟩)] 47)).alloc (.cells #[.int .u64 d, .string v] 53)) = V0 at *
  clear hV0
  have hS0 : Bl V0 V0.drew := (Below.refl _ _).drew
  refine wp_region_det [0, 1, 2, 3, 4, 5, 6, 7] (Bl V0) (Bl V0) (by kernel_rfl) hS0 ?_
  refine wpDet_take ?vU0 (Bl.stays V0) (fun _ h => h) (i := 0) rfl (by kernel_rfl) (by kernel_rfl) (by kernel_rfl) (by kernel_rfl) (fun _ _ _ h => h) (Gives.value (by rfl) ?yU0) ?rU0
  case yU0 => (intro w' hSw; have zz0 := ((show Below _ _ _ from hSw).cell (p := ⟨w.heap.size, 0, none⟩) (World.block_lt_of_cell? _ _ ks)).trans ks; (try dsimp only at hSw); go_simp; try with_reducible rfl)
  (try simp only [Act.put, List.getElem_toArray, List.getElem_cons_zero, List.getElem_cons_succ, List.setIfInBounds_toArray, List.set_cons_zero, List.set_cons_succ])
  refine wpDet_take ?vU1 (Bl.stays V0) (fun _ h => h) (i := 1) rfl (by kernel_rfl) (by kernel_rfl) (by kernel_rfl) (by kernel_rfl) (fun _ _ _ h => h) (Gives.value (by rfl) ?yU1) ?rU1
  case yU1 => (intro w' hSw; (try dsimp only at hSw); go_simp; try with_reducible rfl)
  (try simp only [Act.put, List.getElem_toArray, List.getElem_cons_zero, List.getElem_cons_succ, List.setIfInBounds_toArray, List.set_cons_zero, List.set_cons_succ])
  refine wpDet_take ?vU2 (Bl.stays V0) (fun _ h => h) (i := 2) rfl (by kernel_rfl) (by kernel_rfl) (by kernel_rfl) (by kernel_rfl) (fun _ _ _ h => h) (Gives.value (by rfl) ?yU2) ?rU2
  case yU2 => (intro w' hSw; (try dsimp only at hSw); go_simp; try with_reducible rfl)
  (try simp only [Act.put, List.getElem_toArray, List.getElem_cons_zero, List.getElem_cons_succ, List.setIfInBounds_toArray, List.set_cons_zero, List.set_cons_succ])
  refine wpDet_take ?vU3 (Bl.stays V0) (fun _ h => h) (i := 3) rfl (by kernel_rfl) (by kernel_rfl) (by kernel_rfl) (by kernel_rfl) (fun _ _ _ h => h) (Gives.value (by rfl) ?yU3) ?rU3
  case yU3 => (intro w' hSw; (try dsimp only at hSw); go_simp; try with_reducible rfl)
  (try simp only [Act.put, List.getElem_toArray, List.getElem_cons_zero, List.getElem_cons_succ, List.setIfInBounds_toArray, List.set_cons_zero, List.set_cons_succ])
  refine wpDet_take ?vU4 (Bl.stays V0) (fun _ h => h) (i := 4) rfl (by kernel_rfl) (by kernel_rfl) (by kernel_rfl) (by kernel_rfl) (fun _ _ _ h => h) (Gives.value (by rfl) ?yU4) ?rU4
  case yU4 => (intro w' hSw; have zz0 := ((show Below _ _ _ from hSw).cell (p := ⟨h, 1, none⟩) (World.block_lt_of_cell? _ _ c1)).trans c1; (try dsimp only at hSw); go_simp; try with_reducible rfl)
  (try simp only [Act.put, List.getElem_toArray, List.getElem_cons_zero, List.getElem_cons_succ, List.setIfInBounds_toArray, List.set_cons_zero, List.set_cons_succ])
  refine wpDet_take ?vU5 (Bl.stays V0) (fun _ h => h) (i := 5) rfl (by kernel_rfl) (by kernel_rfl) (by kernel_rfl) (by kernel_rfl) (fun _ _ _ h => h) (Gives.value (by rfl) ?yU5) ?rU5
  case yU5 => (intro w' hSw; (try dsimp only at hSw); go_simp; try with_reducible rfl)
  (try simp only [Act.put, List.getElem_toArray, List.getElem_cons_zero, List.getElem_cons_succ, List.setIfInBounds_toArray, List.set_cons_zero, List.set_cons_succ])
  refine wpDet_take ?vU6 (Bl.stays V0) (fun _ h => h) (i := 6) rfl (by kernel_rfl) (by kernel_rfl) (by kernel_rfl) (by kernel_rfl) (fun _ _ _ h => h) (Gives.value (by rfl) ?yU6) ?rU6
  case yU6 => (intro w' hSw; have zz0 := ((show Below _ _ _ from hSw).cell (p := ⟨w.heap.size + 1, 0, none⟩) (World.block_lt_of_cell? _ _ k0)).trans k0; (try dsimp only at hSw); go_simp; try with_reducible rfl)
  (try simp only [Act.put, List.getElem_toArray, List.getElem_cons_zero, List.getElem_cons_succ, List.setIfInBounds_toArray, List.set_cons_zero, List.set_cons_succ])
  refine wpDet_take (.int .u64 (z : Int)) (Bl.stays V0) (fun _ h => h) (i := 7) rfl (by kernel_rfl) (by kernel_rfl) (by kernel_rfl) (by kernel_rfl) (fun _ _ _ h => h) (Gives.call 50 #[.int .u64 (mu : Int), .int .u64 (d : Int)] (by rfl) (fun _ => by first | (go_simp; done) | (go_simp; rfl)) (fun W hW => (cB W).mono fun e w' ⟨h1, h2⟩ => ⟨h1, h2 ▸ Below.refl _ _⟩)) ?_
  (try simp only [Act.put, List.getElem_toArray, List.getElem_cons_zero, List.getElem_cons_succ, List.setIfInBounds_toArray, List.set_cons_zero, List.set_cons_succ])
  refine wpDet_ready (rs := [8]) (by kernel_rfl) (by simp) (AllDet.cons rfl (fun V hV K hK => ?_) AllDet.nil)
  rw [if_pos (by rfl)]
  refine wp_value (.pointer (some ⟨V.heap.size, 0, none⟩)) (V.alloc (.cells #[.int .u64 0] 51)) (by first | (go_simp; done) | (go_simp; rfl)) ?_
  have hxl : V0.heap.size ≤ V.heap.size := (Bl.out hV).size
  have hz0 : BY V0 V.heap.size 0 (V.alloc (.cells #[.int .u64 0] 51)) := ⟨Bl.stays V0 V _ hV (below_alloc _ _), by simp, frozen_of_row _ _ _ _ _ (heap_alloc_new _ _), hxl⟩
  refine hK.out (BY V0 V.heap.size 0) _ _ (BY.stays _ _ _) (fun _ _ h => h.1) hz0 ?_
  clear hK K hV hz0
  generalize V.heap.size = xb at *
  (try simp only [Act.put, List.getElem_toArray, List.getElem_cons_zero, List.getElem_cons_succ, List.setIfInBounds_toArray, List.set_cons_zero, List.set_cons_succ])
  refine wpDet_ready (rs := [9]) (by kernel_rfl) (by simp) (AllDet.cons rfl (fun V hV K hK => ?_) AllDet.nil)
  rw [if_pos (by rfl)]
  refine wp_store_cell 51 _ _ rfl xb 0 .u64 (z : Int) _ rfl rfl sizeSet hV.2.1 hV.2.2.1 ?_
  refine hK.out (BY V0 xb z) _ _ (BY.stays _ _ _) (no_lean (by kernel_rfl)) (hV.put z) ?_
  clear hK K hV
  (try simp only [Act.put, List.getElem_toArray, List.getElem_cons_zero, List.getElem_cons_succ, List.setIfInBounds_toArray, List.set_cons_zero, List.set_cons_succ])
  refine wpDet_done (by kernel_rfl) (fun W3 hV => ?_) _
  obtain ⟨hB, kx, _, _⟩ := hV
  have hB' := Bl.out hB
  have hbb3 := hbb.trans (hB'.mono hbb.size)
  have HS3 := HS.below hB'
  have ks3 := (hB'.cell (p := ⟨w.heap.size, 0, none⟩) (World.block_lt_of_cell? _ _ ks)).trans ks
  have k03 := (hB'.cell (p := ⟨w.heap.size + 1, 0, none⟩) (World.block_lt_of_cell? _ _ k0)).trans k0
  have k13 := (hB'.cell (p := ⟨w.heap.size + 1, 1, none⟩) (World.block_lt_of_cell? _ _ k1)).trans k1
  have hsz3 := hbb3.size
  clear hB hB' HS ks k0 k1 c1 cB hS0 hbb
  have c4 := HS3.c4
  have hCl := iclone_any wp wn wc S W3 HS3.writes (by omega)
  go_wp2_with fail
  refine hCl.mono ?_
  rintro e4 w4 ⟨p', c', rfl, ho, hb4⟩
  clear hCl c4
  have hD := del_any 72 gone_cf #[.pointer (some ⟨xb, 0, none⟩)] (fun i => !hasN z i) p' wn c' S w4 W3.heap.size ho hw hb4.size (fun W i _ hW => gone_any W z hz64 i xb ((hW.cell (p := ⟨xb, 0, none⟩) (Nat.lt_of_lt_of_le (World.block_lt_of_cell? _ _ kx) hb4.size)).trans ((hb4.cell (p := ⟨xb, 0, none⟩) (World.block_lt_of_cell? _ _ kx)).trans kx)))
  go_wp2_with fail
  refine hD.mono ?_
  rintro e5 w5 ⟨hb5, hcase⟩
  clear hD
  have hb45 := hb4.trans hb5
  have hbb5 := hbb3.trans (hb45.mono hsz3)
  have HS5 := HS3.below hb45
  have ks5 := (hb45.cell (p := ⟨w.heap.size, 0, none⟩) (World.block_lt_of_cell? _ _ ks3)).trans ks3
  have k05 := (hb45.cell (p := ⟨w.heap.size + 1, 0, none⟩) (World.block_lt_of_cell? _ _ k03)).trans k03
  have k15 := (hb45.cell (p := ⟨w.heap.size + 1, 1, none⟩) (World.block_lt_of_cell? _ _ k13)).trans k13
  have hAC : ∀ xs, AsksI 73 #[.pointer (some ⟨w.heap.size, 0, none⟩), .pointer (some ⟨w.heap.size + 1, 0, none⟩)] w5 xs (fun i => !openB n L ah d v i) := fun xs W i _ hW =>
    closed_any W h p n c q e L mu ah (HS5.pa.below hW) d hd v i w.heap.size (w.heap.size + 1) ((hW.cell (p := ⟨w.heap.size, 0, none⟩) (World.block_lt_of_cell? _ _ ks5)).trans ks5) ((hW.cell (p := ⟨w.heap.size + 1, 0, none⟩) (World.block_lt_of_cell? _ _ k05)).trans k05) ((hW.cell (p := ⟨w.heap.size + 1, 1, none⟩) (World.block_lt_of_cell? _ _ k15)).trans k15)
  have hs35 := hb45.size
  clear hb4 hb5 hb45 HS3 HS5 ks3 k03 k13 ks5 k05 k15 ho kx
  rcases hcase with ⟨rfl, hf, ho⟩ | ⟨rfl, hf, hnil⟩
  · have HF : Hid (S.filter (fun j => hasN z j) = S) := by
      have := hf
      simp only [Bool.not_not] at this
      exact this
    have hD2 := del_any 73 closed_cf #[.pointer (some ⟨w.heap.size, 0, none⟩), .pointer (some ⟨w.heap.size + 1, 0, none⟩)] (fun i => !openB n L ah d v i) p' wn c' S w5 W3.heap.size ho hw hs35 (hAC S)
    have hcw := ho.cap
    have hni := ho.rd.nil
    clear hf hAC ho
    obtain rfl | rfl : wn = 0 ∨ wn = 1 := by omega
    · go_wp2_with fail
      refine hD2.mono ?_
      rintro e6 w6 ⟨hb6, hcase⟩
      clear hD2
      have hbz := hbb5.trans (hb6.mono hsz3)
      rcases hcase with ⟨rfl, hg, ho⟩ | ⟨rfl, hg, hnil⟩
      · have HG : Hid (unF n L mu ah d v S = S) := by
          have h1 := hg
          simp only [Bool.not_not] at h1
          unfold Hid
          rw [HU.out, HF.out, h1]
        clear hg
        go_wp2_with fail
        go_ret
        exact ⟨p', _, c', rfl, by decide, by rw [HG.out]; exact ho.rd, hbz⟩
      · have HG : Hid (unF n L mu ah d v S = []) := by
          have h1 := hg
          simp only [Bool.not_not] at h1
          unfold Hid
          rw [HU.out, HF.out, h1]
        clear hg
        go_wp2_with fail
        go_ret
        exact ⟨p', _, c', rfl, by decide, by rw [HG.out]; exact Rd.empty _ _ _ _ hnil, hbz⟩
    · have hc1 : (1 : Int) ≤ (c' : Int) := by omega
      go_wp2_with fail
      refine hD2.mono ?_
      rintro e6 w6 ⟨hb6, hcase⟩
      clear hD2
      have hbz := hbb5.trans (hb6.mono hsz3)
      rcases hcase with ⟨rfl, hg, ho⟩ | ⟨rfl, hg, hnil⟩
      · have HG : Hid (unF n L mu ah d v S = S) := by
          have h1 := hg
          simp only [Bool.not_not] at h1
          unfold Hid
          rw [HU.out, HF.out, h1]
        clear hg
        go_wp2_with fail
        go_ret
        exact ⟨p', _, c', rfl, by decide, by rw [HG.out]; exact ho.rd, hbz⟩
      · have HG : Hid (unF n L mu ah d v S = []) := by
          have h1 := hg
          simp only [Bool.not_not] at h1
          unfold Hid
          rw [HU.out, HF.out, h1]
        clear hg
        go_wp2_with fail
        go_ret
        exact ⟨p', _, c', rfl, by decide, by rw [HG.out]; exact Rd.empty _ _ _ _ hnil, hbz⟩
  · have HF : Hid (unF n L mu ah d v S = []) := by
      have h1 := hf
      simp only [Bool.not_not] at h1
      unfold Hid
      rw [HU.out, h1]
      rfl
    have hD2 := del_keep 73 closed_cf #[.pointer (some ⟨w.heap.size, 0, none⟩), .pointer (some ⟨w.heap.size + 1, 0, none⟩)] (fun i => !openB n L ah d v i) p' 0 c' [] w5 (Rd.empty _ _ _ _ hnil) (by decide) (hAC []) rfl
    clear hf hAC
    go_wp2_with fail
    refine hD2.mono ?_
    rintro e6 w6 ⟨rfl, hb6⟩
    clear hD2
    have hbz := hbb5.trans (hb6.mono hbb5.size)
    go_wp2_with fail
    go_ret
    exact ⟨p', _, c', rfl, by decide, by rw [HF.out]; exact Rd.empty _ _ _ _ hnil, hbz⟩

end Go.Proofs.Ytmfmjoibofadlaa.M
