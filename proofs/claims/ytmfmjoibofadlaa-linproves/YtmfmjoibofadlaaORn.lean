/-
  Own text: the open writes right behind which a read may stand.
-/
import Derived.Test.YtmfmjoibofadlaaOUn
namespace Go.Proofs.Ytmfmjoibofadlaa.M
open Go.ChangeShapes Go.WideShapes Go.ChangeAt Go.RowKit
set_option linter.unusedSimpArgs false

theorem Rd.one (k : IntKind) (w : World) (e : TypeId) (x : Int) : Rd k (w.alloc (.cells #[.int k x] e)) (some ⟨w.heap.size, 0, none⟩) 1 1 [x] := by
  refine ⟨rfl, Nat.le_refl _, (fun h => by cases h), fun _ => ⟨w.heap.size, 0, rfl, fun i hi => ?_⟩⟩
  obtain rfl : i = 0 := by omega
  simp

/-- Places of calls. -/
def Inn (n : Nat) (xs : List Int) : Prop := ∀ x ∈ xs, ∃ k : Nat, x = (k : Int) ∧ k < n

/-- The write behind which read i may stand. -/
def rnS (n : Nat) (L : List Lo) (ah : List Int) (d : Nat) (v : ByteArray) (S : List Int) (i : Int) : List Int :=
  if 0 ≤ ixI (sameB n L ah d v i) 0 S ∧ openB n L ah (d ||| bitN (S.getD (ixI (sameB n L ah d v i) 0 S).toNat 0)) (L.getD (S.getD (ixI (sameB n L ah d v i) 0 S).toNat 0).toNat .z0).s i = true then [S.getD (ixI (sameB n L ah d v i) 0 S).toNat 0] else []

/-- The writes behind which one of some reads may stand. -/
def rnF (n : Nat) (L : List Lo) (ah : List Int) (d : Nat) (v : ByteArray) (S R : List Int) : List Int := (R.map (rnS n L ah d v S)).flatten

theorem rnF_snoc (n : Nat) (L : List Lo) (ah : List Int) (d : Nat) (v : ByteArray) (S R : List Int) {k : Nat} (h : k < R.length) : rnF n L ah d v S (R.take (k + 1)) = rnF n L ah d v S (R.take k) ++ rnS n L ah d v S (R.getD k 0) := by
  unfold rnF
  rw [List.take_succ_eq_append_getElem h, List.map_append, List.flatten_append, List.getD_eq_getElem?_getD, List.getElem?_eq_getElem h]
  simp

set_option maxRecDepth 20000 in
set_option maxHeartbeats 4000000 in
theorem readNext_any (w : World) (h : Nat) (p : Option Addr) (n c : Nat) (q : Option Addr) (e : Nat) (L : List Lo) (mu : Nat) (ah : List Int) (rp : Option Addr) (rn rc : Nat) (R : List Int) (wp : Option Addr) (wn wc : Nat) (S : List Int) (H : Se w h p n c q e L mu ah rp rn rc R wp wn wc S) (hrn : rn ≤ 24) (hwn : wn ≤ 24) (hR : Inn n R) (hSn : Inn n S) (d : Nat) (hd : d < 18446744073709551616) (v : ByteArray) :
    Calls Try.prog 57 #[.pointer (some ⟨h, 0, none⟩), .agg #[.int .u64 d, .string v]] w fun r w' => ∃ p' n' c', r = .returned (.slice p' n' c') ∧ n' ≤ rn ∧ Ow .i64 3 w' w.heap.size p' n' c' (rnF n L ah d v S R) ∧ Below w.heap.size w w' := by
  have hb0 := below_alloc w (.cells #[.pointer (some ⟨h, 0, none⟩)] 47)
  have hb1 := below_alloc (w.alloc (.cells #[.pointer (some ⟨h, 0, none⟩)] 47)) (.cells #[.int .u64 d, .string v] 53)
  have hbb := hb0.trans (hb1.mono hb0.size)
  have HS := H.below hbb
  have ks : ((w.alloc (.cells #[.pointer (some ⟨h, 0, none⟩)] 47)).alloc (.cells #[.int .u64 d, .string v] 53)).cell? ⟨w.heap.size, 0, none⟩ = some (.pointer (some ⟨h, 0, none⟩)) := by
    rw [hb1.cell (p := ⟨w.heap.size, 0, none⟩) (by simp)]; simp
  obtain ⟨k0, k1⟩ := point_box (w.alloc (.cells #[.pointer (some ⟨h, 0, none⟩)] 47)) 53 d v
  have hs1 : (w.alloc (.cells #[.pointer (some ⟨h, 0, none⟩)] 47)).heap.size = w.heap.size + 1 := by simp
  rw [hs1] at k0 k1
  obtain ⟨i0, hi0, hz0, hz1, hz2⟩ := info_parts infoI
  have hRl := H.reads.len
  have hSl := H.writes.len
  clear H hb0 hb1 hs1
  have c3 := HS.c3
  go_enter Try.func57, Try.ntmps57
  go_wp2_with fail
  generalize hV0 : ((w.alloc (.cells #[.pointer (some ⟨h, 0, none⟩)] 47)).alloc (.cells #[.int .u64 d, .string v] 53)) = V0 at *
  clear hV0 c3
  go_loopw [5, 15] (fun vl vi wr => ∃ (k : Nat) (p' : Option Addr) (n' c' : Nat), k ≤ rn ∧ vi = .int .i64 k ∧ vl = .slice p' n' c' ∧ n' ≤ k ∧ Ow .i64 3 wr V0.heap.size p' n' c' (rnF n L ah d v S (R.take k)) ∧ Below V0.heap.size V0 wr) (fun _ vi _ => rn - (intOf vi).toNat)
  case atStart => exact ⟨0, none, 0, 0, Nat.zero_le _, rfl, rfl, Nat.le_refl _, Ow.empty _ _ _ _ _, Below.refl _ _⟩
  case round =>
    obtain ⟨k, p', n', c', hk, rfl, rfl, hnk, ho, hb⟩ := hrel
    by_cases hkn : k < rn
    · have H1 := HS.below hb
      obtain ⟨br, orr, hrp, hcr⟩ := H1.reads.cells (by omega)
      have xr := hcr k hkn
      obtain ⟨i, hi, hin⟩ := hR _ (getD_mem (k := k) (show k < R.length by omega))
      have HN := rnF_snoc n L ah d v S R (k := k) (by omega)
      rw [hi] at xr HN
      have hki : (k : Int) < (rn : Int) := by omega
      have hba := below_alloc wr (.cells #[.int .i64 (i : Int)] 3)
      have hb2 := hb.trans (hba.mono hb.size)
      have H2 := HS.below hb2
      have ki : (wr.alloc (.cells #[.int .i64 (i : Int)] 3)).cell? ⟨wr.heap.size, 0, none⟩ = some (.int .i64 (i : Int)) := by simp
      have ks2 := (hb2.cell (p := ⟨w.heap.size, 0, none⟩) (World.block_lt_of_cell? _ _ ks)).trans ks
      have k02 := (hb2.cell (p := ⟨w.heap.size + 1, 0, none⟩) (World.block_lt_of_cell? _ _ k0)).trans k0
      have k12 := (hb2.cell (p := ⟨w.heap.size + 1, 1, none⟩) (World.block_lt_of_cell? _ _ k1)).trans k1
      have ho2 := ho.below hba
      have c42 := H2.c4
      cases hrp
      clear hcr hi H1 ho hba
      go_wp2_with fail
      generalize hW1 : wr.alloc (.cells #[.int .i64 (i : Int)] 3) = W1 at *
      generalize hg7 : wr.heap.size = g7 at *
      clear hW1 hg7 xr hb
      have hA : AsksI 71 #[.pointer (some ⟨w.heap.size, 0, none⟩), .pointer (some ⟨g7, 0, none⟩), .pointer (some ⟨w.heap.size + 1, 0, none⟩)] W1 S (sameB n L ah d v (i : Int)) := fun W x hx hW => by
        obtain ⟨j, rfl, hj⟩ := hSn x hx
        exact same_any W h p n c q e L mu ah (H2.pa.below hW) d hd v i j hin hj w.heap.size (w.heap.size + 1) g7 ((hW.cell (p := ⟨w.heap.size, 0, none⟩) (World.block_lt_of_cell? _ _ ks2)).trans ks2) ((hW.cell (p := ⟨g7, 0, none⟩) (World.block_lt_of_cell? _ _ ki)).trans ki) ((hW.cell (p := ⟨w.heap.size + 1, 0, none⟩) (World.block_lt_of_cell? _ _ k02)).trans k02) ((hW.cell (p := ⟨w.heap.size + 1, 1, none⟩) (World.block_lt_of_cell? _ _ k12)).trans k12)
      have hI := indexI_any _ same_cf _ _ wp wn wc S W1 H2.writes (by omega) hA
      have hat := ixI_at (sameB n L ah d v (i : Int)) S 0
      refine hI.mono ?_
      rintro r5 w2 ⟨rfl, hb5⟩
      have H5 := H2.below hb5
      have c45 := H5.c4
      have ks5 := (hb5.cell (p := ⟨w.heap.size, 0, none⟩) (World.block_lt_of_cell? _ _ ks2)).trans ks2
      have k05 := (hb5.cell (p := ⟨w.heap.size + 1, 0, none⟩) (World.block_lt_of_cell? _ _ k02)).trans k02
      have k15 := (hb5.cell (p := ⟨w.heap.size + 1, 1, none⟩) (World.block_lt_of_cell? _ _ k12)).trans k12
      have ki5 := (hb5.cell (p := ⟨g7, 0, none⟩) (World.block_lt_of_cell? _ _ ki)).trans ki
      have ho5 := ho2.below hb5
      have hbb5 := hb2.trans (hb5.mono hb2.size)
      clear hI hA H2 ks2 k02 k12 ki ho2 hb5 hb2 c42
      have hS0 : Bl w2 w2.drew := (Below.refl _ _).drew
      have hge : (0 : Int) ≤ 0 := Int.le_refl 0
      clear hge
      rcases hat with hat | ⟨j, hat, hjS⟩
      · have HE : Hid (rnF n L ah d v S (R.take (k + 1)) = rnF n L ah d v S (R.take k)) := by
          unfold Hid
          rw [HN]
          unfold rnS
          rw [hat, if_neg (by rintro ⟨h1, _⟩; exact absurd h1 (by decide)), List.append_nil]
        rw [hat]
        have hge : ¬ (0 : Int) ≤ -1 := by decide
        clear hat HN
        go_wp2_with fail
        refine wp_region_det [0, 1, 2, 3, 4, 5, 6, 7, 8, 9, 10, 11, 12, 13, 14, 15, 16, 17, 18, 19, 20] (Bl w2) (Bl w2) (by kernel_rfl) hS0 ?_
        refine wpDet_take ?vNf0 (Bl.stays w2) (fun _ h => h) (i := 0) rfl (by kernel_rfl) (by kernel_rfl) (by kernel_rfl) (by kernel_rfl) (fun _ _ _ h => h) (Gives.value (by rfl) ?yNf0) ?rNf0
        case yNf0 => (intro w' hSw; (try dsimp only at hSw); go_simp; try with_reducible rfl)
        (try simp only [Act.put, List.getElem_toArray, List.getElem_cons_zero, List.getElem_cons_succ, List.setIfInBounds_toArray, List.set_cons_zero, List.set_cons_succ])
        refine wpDet_take (.bool false) (Bl.stays w2) (fun _ h => h) (i := 1) rfl (by kernel_rfl) (by kernel_rfl) (by kernel_rfl) (by kernel_rfl) (fun _ _ _ h => h) (Gives.value (by rfl) ?yNf1) ?rNf1
        case yNf1 => (intro w' hSw; (try dsimp only at hSw); go_simp; (try simp only [hge]); (try simp); try with_reducible rfl)
        (try simp only [Act.put, List.getElem_toArray, List.getElem_cons_zero, List.getElem_cons_succ, List.setIfInBounds_toArray, List.set_cons_zero, List.set_cons_succ])
        refine wpDet_take ?vNf2 (Bl.stays w2) (fun _ h => h) (i := 2) rfl (by kernel_rfl) (by kernel_rfl) (by kernel_rfl) (by kernel_rfl) (fun _ _ _ h => h) (Gives.value (by rfl) ?yNf2) ?rNf2
        case yNf2 => (intro w' hSw; (try dsimp only at hSw); go_simp; try with_reducible rfl)
        (try simp only [Act.put, List.getElem_toArray, List.getElem_cons_zero, List.getElem_cons_succ, List.setIfInBounds_toArray, List.set_cons_zero, List.set_cons_succ])
        refine wpDet_take undef (Bl.stays w2) (fun _ h => h) (i := 3) rfl (by kernel_rfl) (by kernel_rfl) (by kernel_rfl) (by kernel_rfl) (fun _ _ _ h => h) (Gives.not (by rfl)) ?_
        (try simp only [Act.put, List.getElem_toArray, List.getElem_cons_zero, List.getElem_cons_succ, List.setIfInBounds_toArray, List.set_cons_zero, List.set_cons_succ])
        refine wpDet_take undef (Bl.stays w2) (fun _ h => h) (i := 4) rfl (by kernel_rfl) (by kernel_rfl) (by kernel_rfl) (by kernel_rfl) (fun _ _ _ h => h) (Gives.not (by rfl)) ?_
        (try simp only [Act.put, List.getElem_toArray, List.getElem_cons_zero, List.getElem_cons_succ, List.setIfInBounds_toArray, List.set_cons_zero, List.set_cons_succ])
        refine wpDet_take undef (Bl.stays w2) (fun _ h => h) (i := 5) rfl (by kernel_rfl) (by kernel_rfl) (by kernel_rfl) (by kernel_rfl) (fun _ _ _ h => h) (Gives.not (by rfl)) ?_
        (try simp only [Act.put, List.getElem_toArray, List.getElem_cons_zero, List.getElem_cons_succ, List.setIfInBounds_toArray, List.set_cons_zero, List.set_cons_succ])
        refine wpDet_take undef (Bl.stays w2) (fun _ h => h) (i := 6) rfl (by kernel_rfl) (by kernel_rfl) (by kernel_rfl) (by kernel_rfl) (fun _ _ _ h => h) (Gives.not (by rfl)) ?_
        (try simp only [Act.put, List.getElem_toArray, List.getElem_cons_zero, List.getElem_cons_succ, List.setIfInBounds_toArray, List.set_cons_zero, List.set_cons_succ])
        refine wpDet_take undef (Bl.stays w2) (fun _ h => h) (i := 7) rfl (by kernel_rfl) (by kernel_rfl) (by kernel_rfl) (by kernel_rfl) (fun _ _ _ h => h) (Gives.not (by rfl)) ?_
        (try simp only [Act.put, List.getElem_toArray, List.getElem_cons_zero, List.getElem_cons_succ, List.setIfInBounds_toArray, List.set_cons_zero, List.set_cons_succ])
        refine wpDet_take undef (Bl.stays w2) (fun _ h => h) (i := 8) rfl (by kernel_rfl) (by kernel_rfl) (by kernel_rfl) (by kernel_rfl) (fun _ _ _ h => h) (Gives.not (by rfl)) ?_
        (try simp only [Act.put, List.getElem_toArray, List.getElem_cons_zero, List.getElem_cons_succ, List.setIfInBounds_toArray, List.set_cons_zero, List.set_cons_succ])
        refine wpDet_take undef (Bl.stays w2) (fun _ h => h) (i := 9) rfl (by kernel_rfl) (by kernel_rfl) (by kernel_rfl) (by kernel_rfl) (fun _ _ _ h => h) (Gives.not (by rfl)) ?_
        (try simp only [Act.put, List.getElem_toArray, List.getElem_cons_zero, List.getElem_cons_succ, List.setIfInBounds_toArray, List.set_cons_zero, List.set_cons_succ])
        refine wpDet_take undef (Bl.stays w2) (fun _ h => h) (i := 10) rfl (by kernel_rfl) (by kernel_rfl) (by kernel_rfl) (by kernel_rfl) (fun _ _ _ h => h) (Gives.not (by rfl)) ?_
        (try simp only [Act.put, List.getElem_toArray, List.getElem_cons_zero, List.getElem_cons_succ, List.setIfInBounds_toArray, List.set_cons_zero, List.set_cons_succ])
        refine wpDet_take undef (Bl.stays w2) (fun _ h => h) (i := 11) rfl (by kernel_rfl) (by kernel_rfl) (by kernel_rfl) (by kernel_rfl) (fun _ _ _ h => h) (Gives.not (by rfl)) ?_
        (try simp only [Act.put, List.getElem_toArray, List.getElem_cons_zero, List.getElem_cons_succ, List.setIfInBounds_toArray, List.set_cons_zero, List.set_cons_succ])
        refine wpDet_take undef (Bl.stays w2) (fun _ h => h) (i := 12) rfl (by kernel_rfl) (by kernel_rfl) (by kernel_rfl) (by kernel_rfl) (fun _ _ _ h => h) (Gives.not (by rfl)) ?_
        (try simp only [Act.put, List.getElem_toArray, List.getElem_cons_zero, List.getElem_cons_succ, List.setIfInBounds_toArray, List.set_cons_zero, List.set_cons_succ])
        refine wpDet_take undef (Bl.stays w2) (fun _ h => h) (i := 13) rfl (by kernel_rfl) (by kernel_rfl) (by kernel_rfl) (by kernel_rfl) (fun _ _ _ h => h) (Gives.not (by rfl)) ?_
        (try simp only [Act.put, List.getElem_toArray, List.getElem_cons_zero, List.getElem_cons_succ, List.setIfInBounds_toArray, List.set_cons_zero, List.set_cons_succ])
        refine wpDet_take undef (Bl.stays w2) (fun _ h => h) (i := 14) rfl (by kernel_rfl) (by kernel_rfl) (by kernel_rfl) (by kernel_rfl) (fun _ _ _ h => h) (Gives.not (by rfl)) ?_
        (try simp only [Act.put, List.getElem_toArray, List.getElem_cons_zero, List.getElem_cons_succ, List.setIfInBounds_toArray, List.set_cons_zero, List.set_cons_succ])
        refine wpDet_take undef (Bl.stays w2) (fun _ h => h) (i := 15) rfl (by kernel_rfl) (by kernel_rfl) (by kernel_rfl) (by kernel_rfl) (fun _ _ _ h => h) (Gives.not (by rfl)) ?_
        (try simp only [Act.put, List.getElem_toArray, List.getElem_cons_zero, List.getElem_cons_succ, List.setIfInBounds_toArray, List.set_cons_zero, List.set_cons_succ])
        refine wpDet_take undef (Bl.stays w2) (fun _ h => h) (i := 16) rfl (by kernel_rfl) (by kernel_rfl) (by kernel_rfl) (by kernel_rfl) (fun _ _ _ h => h) (Gives.not (by rfl)) ?_
        (try simp only [Act.put, List.getElem_toArray, List.getElem_cons_zero, List.getElem_cons_succ, List.setIfInBounds_toArray, List.set_cons_zero, List.set_cons_succ])
        refine wpDet_take undef (Bl.stays w2) (fun _ h => h) (i := 17) rfl (by kernel_rfl) (by kernel_rfl) (by kernel_rfl) (by kernel_rfl) (fun _ _ _ h => h) (Gives.not (by rfl)) ?_
        (try simp only [Act.put, List.getElem_toArray, List.getElem_cons_zero, List.getElem_cons_succ, List.setIfInBounds_toArray, List.set_cons_zero, List.set_cons_succ])
        refine wpDet_take undef (Bl.stays w2) (fun _ h => h) (i := 18) rfl (by kernel_rfl) (by kernel_rfl) (by kernel_rfl) (by kernel_rfl) (fun _ _ _ h => h) (Gives.not (by rfl)) ?_
        (try simp only [Act.put, List.getElem_toArray, List.getElem_cons_zero, List.getElem_cons_succ, List.setIfInBounds_toArray, List.set_cons_zero, List.set_cons_succ])
        refine wpDet_take undef (Bl.stays w2) (fun _ h => h) (i := 19) rfl (by kernel_rfl) (by kernel_rfl) (by kernel_rfl) (by kernel_rfl) (fun _ _ _ h => h) (Gives.not (by rfl)) ?_
        (try simp only [Act.put, List.getElem_toArray, List.getElem_cons_zero, List.getElem_cons_succ, List.setIfInBounds_toArray, List.set_cons_zero, List.set_cons_succ])
        refine wpDet_take ?vNf20 (Bl.stays w2) (fun _ h => h) (i := 20) rfl (by kernel_rfl) (by kernel_rfl) (by kernel_rfl) (by kernel_rfl) (fun _ _ _ h => h) (Gives.value (by rfl) ?yNf20) ?rNf20
        case yNf20 => (intro w' hSw; (try dsimp only at hSw); go_simp; try with_reducible rfl)
        (try simp only [Act.put, List.getElem_toArray, List.getElem_cons_zero, List.getElem_cons_succ, List.setIfInBounds_toArray, List.set_cons_zero, List.set_cons_succ])
        refine wpDet_done (by kernel_rfl) (fun W7 hV => ?_) _
        have ho7 := ho5.below (Bl.out hV)
        have hb7 := hbb5.trans ((Bl.out hV).mono hbb5.size)
        clear ho5 hbb5 H5
        go_wp2_with fail
        go_roundw
        case rel => exact ⟨k + 1, p', n', c', by omega, by go_num, rfl, by omega, by rw [HE.out]; exact ho7, hb7⟩
        case measure => simp [intOf]; omega
      · rw [Nat.zero_add] at hat
        obtain ⟨s, hs0, hs⟩ := hSn _ (getD_mem (k := j) hjS)
        have hE0 : rnS n L ah d v S (i : Int) = if openB n L ah (d ||| bitN (s : Int)) (L.getD s .z0).s (i : Int) = true then [(s : Int)] else [] := by
          unfold rnS
          rw [hat, Int.toNat_natCast, hs0, Int.toNat_natCast]
          by_cases hz : openB n L ah (d ||| bitN (s : Int)) (L.getD s .z0).s (i : Int) = true
          · rw [if_pos hz, if_pos ⟨by omega, hz⟩]
          · rw [if_neg hz, if_neg (fun h => hz h.2)]
        rw [hE0] at HN
        rw [hat]
        have hge : (0 : Int) ≤ (j : Int) := by omega
        have hd2 : d ||| bitN (s : Int) < 18446744073709551616 := or_lt64 hd (bitN_lt _)
        obtain ⟨bw, ow, hwp, hcw⟩ := H5.writes.cells (by omega)
        have xw := hcw j (by omega)
        rw [hs0] at xw
        have hjw : (j : Int) < (wn : Int) := by omega
        have hsn : (s : Int) < (n : Int) := by omega
        obtain ⟨ob, hob0⟩ : ∃ ob, ob = openB n L ah (d ||| bitN (s : Int)) (L.getD s .z0).s (i : Int) := ⟨_, rfl⟩
        have hob : Hid (openB n L ah (d ||| bitN (s : Int)) (L.getD s .z0).s (i : Int) = ob) := hob0.symm
        rw [← hob0] at HN
        have HN2 : Hid (rnF n L ah d v S (R.take (k + 1)) = rnF n L ah d v S (R.take k) ++ if ob = true then [(s : Int)] else []) := HN
        cases hwp
        clear hat HN hE0 hs0 hob0 hcw
        go_wp2_with fail
        refine wp_region_det [0, 1, 2, 3, 4, 5, 6, 7, 8, 9, 10, 11, 12, 13, 14, 15, 16, 17, 18, 19, 20] (Bl w2) (Bl w2) (by kernel_rfl) hS0 ?_
        refine wpDet_take ?vNt0 (Bl.stays w2) (fun _ h => h) (i := 0) rfl (by kernel_rfl) (by kernel_rfl) (by kernel_rfl) (by kernel_rfl) (fun _ _ _ h => h) (Gives.value (by rfl) ?yNt0) ?rNt0
        case yNt0 => (intro w' hSw; (try dsimp only at hSw); go_simp; try with_reducible rfl)
        (try simp only [Act.put, List.getElem_toArray, List.getElem_cons_zero, List.getElem_cons_succ, List.setIfInBounds_toArray, List.set_cons_zero, List.set_cons_succ])
        refine wpDet_take (.bool true) (Bl.stays w2) (fun _ h => h) (i := 1) rfl (by kernel_rfl) (by kernel_rfl) (by kernel_rfl) (by kernel_rfl) (fun _ _ _ h => h) (Gives.value (by rfl) ?yNt1) ?rNt1
        case yNt1 => (intro w' hSw; (try dsimp only at hSw); go_simp; (try simp only [hge]); (try simp); try with_reducible rfl)
        (try simp only [Act.put, List.getElem_toArray, List.getElem_cons_zero, List.getElem_cons_succ, List.setIfInBounds_toArray, List.set_cons_zero, List.set_cons_succ])
        refine wpDet_take ?vNt2 (Bl.stays w2) (fun _ h => h) (i := 2) rfl (by kernel_rfl) (by kernel_rfl) (by kernel_rfl) (by kernel_rfl) (fun _ _ _ h => h) (Gives.value (by rfl) ?yNt2) ?rNt2
        case yNt2 => (intro w' hSw; (try dsimp only at hSw); go_simp; try with_reducible rfl)
        (try simp only [Act.put, List.getElem_toArray, List.getElem_cons_zero, List.getElem_cons_succ, List.setIfInBounds_toArray, List.set_cons_zero, List.set_cons_succ])
        refine wpDet_take ?vNt3 (Bl.stays w2) (fun _ h => h) (i := 3) rfl (by kernel_rfl) (by kernel_rfl) (by kernel_rfl) (by kernel_rfl) (fun _ _ _ h => h) (Gives.value (by rfl) ?yNt3) ?rNt3
        case yNt3 => (intro w' hSw; have zz0 := ((show Below _ _ _ from hSw).cell (p := ⟨w.heap.size, 0, none⟩) (World.block_lt_of_cell? _ _ ks5)).trans ks5; (try dsimp only at hSw); go_simp; try with_reducible rfl)
        (try simp only [Act.put, List.getElem_toArray, List.getElem_cons_zero, List.getElem_cons_succ, List.setIfInBounds_toArray, List.set_cons_zero, List.set_cons_succ])
        refine wpDet_take ?vNt4 (Bl.stays w2) (fun _ h => h) (i := 4) rfl (by kernel_rfl) (by kernel_rfl) (by kernel_rfl) (by kernel_rfl) (fun _ _ _ h => h) (Gives.value (by rfl) ?yNt4) ?rNt4
        case yNt4 => (intro w' hSw; (try dsimp only at hSw); go_simp; try with_reducible rfl)
        (try simp only [Act.put, List.getElem_toArray, List.getElem_cons_zero, List.getElem_cons_succ, List.setIfInBounds_toArray, List.set_cons_zero, List.set_cons_succ])
        refine wpDet_take ?vNt5 (Bl.stays w2) (fun _ h => h) (i := 5) rfl (by kernel_rfl) (by kernel_rfl) (by kernel_rfl) (by kernel_rfl) (fun _ _ _ h => h) (Gives.value (by rfl) ?yNt5) ?rNt5
        case yNt5 => (intro w' hSw; (try dsimp only at hSw); go_simp; try with_reducible rfl)
        (try simp only [Act.put, List.getElem_toArray, List.getElem_cons_zero, List.getElem_cons_succ, List.setIfInBounds_toArray, List.set_cons_zero, List.set_cons_succ])
        refine wpDet_take ?vNt6 (Bl.stays w2) (fun _ h => h) (i := 6) rfl (by kernel_rfl) (by kernel_rfl) (by kernel_rfl) (by kernel_rfl) (fun _ _ _ h => h) (Gives.value (by rfl) ?yNt6) ?rNt6
        case yNt6 => (intro w' hSw; have zz0 := ((show Below _ _ _ from hSw).cell (p := ⟨w.heap.size, 0, none⟩) (World.block_lt_of_cell? _ _ ks5)).trans ks5; (try dsimp only at hSw); go_simp; try with_reducible rfl)
        (try simp only [Act.put, List.getElem_toArray, List.getElem_cons_zero, List.getElem_cons_succ, List.setIfInBounds_toArray, List.set_cons_zero, List.set_cons_succ])
        refine wpDet_take ?vNt7 (Bl.stays w2) (fun _ h => h) (i := 7) rfl (by kernel_rfl) (by kernel_rfl) (by kernel_rfl) (by kernel_rfl) (fun _ _ _ h => h) (Gives.value (by rfl) ?yNt7) ?rNt7
        case yNt7 => (intro w' hSw; (try dsimp only at hSw); go_simp; try with_reducible rfl)
        (try simp only [Act.put, List.getElem_toArray, List.getElem_cons_zero, List.getElem_cons_succ, List.setIfInBounds_toArray, List.set_cons_zero, List.set_cons_succ])
        refine wpDet_take ?vNt8 (Bl.stays w2) (fun _ h => h) (i := 8) rfl (by kernel_rfl) (by kernel_rfl) (by kernel_rfl) (by kernel_rfl) (fun _ _ _ h => h) (Gives.value (by rfl) ?yNt8) ?rNt8
        case yNt8 => (intro w' hSw; (try dsimp only at hSw); go_simp; try with_reducible rfl)
        (try simp only [Act.put, List.getElem_toArray, List.getElem_cons_zero, List.getElem_cons_succ, List.setIfInBounds_toArray, List.set_cons_zero, List.set_cons_succ])
        refine wpDet_take ?vNt9 (Bl.stays w2) (fun _ h => h) (i := 9) rfl (by kernel_rfl) (by kernel_rfl) (by kernel_rfl) (by kernel_rfl) (fun _ _ _ h => h) (Gives.value (by rfl) ?yNt9) ?rNt9
        case yNt9 => (intro w' hSw; have zz0 := ((show Below _ _ _ from hSw).cell (p := ⟨w.heap.size + 1, 0, none⟩) (World.block_lt_of_cell? _ _ k05)).trans k05; have zz1 := ((show Below _ _ _ from hSw).cell (p := ⟨w.heap.size + 1, 1, none⟩) (World.block_lt_of_cell? _ _ k15)).trans k15; (try dsimp only at hSw); go_simp; try with_reducible rfl)
        (try simp only [Act.put, List.getElem_toArray, List.getElem_cons_zero, List.getElem_cons_succ, List.setIfInBounds_toArray, List.set_cons_zero, List.set_cons_succ])
        refine wpDet_take ?vNt10 (Bl.stays w2) (fun _ h => h) (i := 10) rfl (by kernel_rfl) (by kernel_rfl) (by kernel_rfl) (by kernel_rfl) (fun _ _ _ h => h) (Gives.value (by rfl) ?yNt10) ?rNt10
        case yNt10 => (intro w' hSw; have zz0 := ((show Below _ _ _ from hSw).cell (p := ⟨w.heap.size, 0, none⟩) (World.block_lt_of_cell? _ _ ks5)).trans ks5; (try dsimp only at hSw); go_simp; try with_reducible rfl)
        (try simp only [Act.put, List.getElem_toArray, List.getElem_cons_zero, List.getElem_cons_succ, List.setIfInBounds_toArray, List.set_cons_zero, List.set_cons_succ])
        refine wpDet_take ?vNt11 (Bl.stays w2) (fun _ h => h) (i := 11) rfl (by kernel_rfl) (by kernel_rfl) (by kernel_rfl) (by kernel_rfl) (fun _ _ _ h => h) (Gives.value (by rfl) ?yNt11) ?rNt11
        case yNt11 => (intro w' hSw; (try dsimp only at hSw); go_simp; try with_reducible rfl)
        (try simp only [Act.put, List.getElem_toArray, List.getElem_cons_zero, List.getElem_cons_succ, List.setIfInBounds_toArray, List.set_cons_zero, List.set_cons_succ])
        refine wpDet_take ?vNt12 (Bl.stays w2) (fun _ h => h) (i := 12) rfl (by kernel_rfl) (by kernel_rfl) (by kernel_rfl) (by kernel_rfl) (fun _ _ _ h => h) (Gives.value (by rfl) ?yNt12) ?rNt12
        case yNt12 => (intro w' hSw; (try dsimp only at hSw); go_simp; try with_reducible rfl)
        (try simp only [Act.put, List.getElem_toArray, List.getElem_cons_zero, List.getElem_cons_succ, List.setIfInBounds_toArray, List.set_cons_zero, List.set_cons_succ])
        refine wpDet_take ?vNt13 (Bl.stays w2) (fun _ h => h) (i := 13) rfl (by kernel_rfl) (by kernel_rfl) (by kernel_rfl) (by kernel_rfl) (fun _ _ _ h => h) (Gives.value (by rfl) ?yNt13) ?rNt13
        case yNt13 => (intro w' hSw; have zz0 := ((show Below _ _ _ from hSw).cell (p := ⟨h, 4, none⟩) (World.block_lt_of_cell? _ _ c45)).trans c45; (try dsimp only at hSw); go_simp; try with_reducible rfl)
        (try simp only [Act.put, List.getElem_toArray, List.getElem_cons_zero, List.getElem_cons_succ, List.setIfInBounds_toArray, List.set_cons_zero, List.set_cons_succ])
        refine wpDet_take ?vNt14 (Bl.stays w2) (fun _ h => h) (i := 14) rfl (by kernel_rfl) (by kernel_rfl) (by kernel_rfl) (by kernel_rfl) (fun _ _ _ h => h) (Gives.value (by rfl) ?yNt14) ?rNt14
        case yNt14 => (intro w' hSw; (try dsimp only at hSw); go_simp; try with_reducible rfl)
        (try simp only [Act.put, List.getElem_toArray, List.getElem_cons_zero, List.getElem_cons_succ, List.setIfInBounds_toArray, List.set_cons_zero, List.set_cons_succ])
        refine wpDet_take ?vNt15 (Bl.stays w2) (fun _ h => h) (i := 15) rfl (by kernel_rfl) (by kernel_rfl) (by kernel_rfl) (by kernel_rfl) (fun _ _ _ h => h) (Gives.value (by rfl) ?yNt15) ?rNt15
        case yNt15 => (intro w' hSw; (try dsimp only at hSw); go_simp; try with_reducible rfl)
        (try simp only [Act.put, List.getElem_toArray, List.getElem_cons_zero, List.getElem_cons_succ, List.setIfInBounds_toArray, List.set_cons_zero, List.set_cons_succ])
        refine wpDet_take ?vNt16 (Bl.stays w2) (fun _ h => h) (i := 16) rfl (by kernel_rfl) (by kernel_rfl) (by kernel_rfl) (by kernel_rfl) (fun _ _ _ h => h) (Gives.value (by rfl) ?yNt16) ?rNt16
        case yNt16 => (intro w' hSw; have zz0 := ((show Below _ _ _ from hSw).cell (p := ⟨bw, ow + j, none⟩) (World.block_lt_of_cell? _ _ xw)).trans xw; (try dsimp only at hSw); go_simp; try with_reducible rfl)
        (try simp only [Act.put, List.getElem_toArray, List.getElem_cons_zero, List.getElem_cons_succ, List.setIfInBounds_toArray, List.set_cons_zero, List.set_cons_succ])
        refine wpDet_take (.agg #[.int .u64 (d ||| bitN (s : Int) : Nat), .string (L.getD s .z0).s]) (Bl.stays w2) (fun _ h => h) (i := 17) rfl (by kernel_rfl) (by kernel_rfl) (by kernel_rfl) (by kernel_rfl) (fun _ _ _ h => h) (Gives.call 29 #[.pointer (some ⟨h, 0, none⟩), .agg #[.int .u64 d, .string v], .int .i64 (s : Int)] (by rfl) (fun _ => by first | (go_simp; done) | (go_simp; rfl)) (fun W hW => (behind_any W h p n c q e L mu ah (H5.pa.below hW) d hd v s hs).mono fun e w' ⟨h1, h2⟩ => ⟨h1, h2⟩)) ?_
        (try simp only [Act.put, List.getElem_toArray, List.getElem_cons_zero, List.getElem_cons_succ, List.setIfInBounds_toArray, List.set_cons_zero, List.set_cons_succ])
        refine wpDet_take ?vNt18 (Bl.stays w2) (fun _ h => h) (i := 18) rfl (by kernel_rfl) (by kernel_rfl) (by kernel_rfl) (by kernel_rfl) (fun _ _ _ h => h) (Gives.value (by rfl) ?yNt18) ?rNt18
        case yNt18 => (intro w' hSw; have zz0 := ((show Below _ _ _ from hSw).cell (p := ⟨g7, 0, none⟩) (World.block_lt_of_cell? _ _ ki5)).trans ki5; (try dsimp only at hSw); go_simp; try with_reducible rfl)
        (try simp only [Act.put, List.getElem_toArray, List.getElem_cons_zero, List.getElem_cons_succ, List.setIfInBounds_toArray, List.set_cons_zero, List.set_cons_succ])
        refine wpDet_take (.bool ob) (Bl.stays w2) (fun _ h => h) (i := 19) rfl (by kernel_rfl) (by kernel_rfl) (by kernel_rfl) (by kernel_rfl) (fun _ _ _ h => h) (Gives.call 28 #[.pointer (some ⟨h, 0, none⟩), .agg #[.int .u64 (d ||| bitN (s : Int) : Nat), .string (L.getD s .z0).s], .int .i64 (i : Int)] (by rfl) (fun _ => by first | (go_simp; done) | (go_simp; rfl)) (fun W hW => (open_any W h p n c q e L mu ah (H5.pa.below hW) (d ||| bitN (s : Int)) hd2 (L.getD s .z0).s i).mono fun e w' ⟨h1, h2⟩ => ⟨h1.trans (by rw [hob.out]), h2⟩)) ?_
        (try simp only [Act.put, List.getElem_toArray, List.getElem_cons_zero, List.getElem_cons_succ, List.setIfInBounds_toArray, List.set_cons_zero, List.set_cons_succ])
        refine wpDet_take ?vNt20 (Bl.stays w2) (fun _ h => h) (i := 20) rfl (by kernel_rfl) (by kernel_rfl) (by kernel_rfl) (by kernel_rfl) (fun _ _ _ h => h) (Gives.value (by rfl) ?yNt20) ?rNt20
        case yNt20 => (intro w' hSw; (try dsimp only at hSw); go_simp; try with_reducible rfl)
        (try simp only [Act.put, List.getElem_toArray, List.getElem_cons_zero, List.getElem_cons_succ, List.setIfInBounds_toArray, List.set_cons_zero, List.set_cons_succ])
        refine wpDet_done (by kernel_rfl) (fun W7 hV => ?_) _
        have ho7 := ho5.below (Bl.out hV)
        have hb7 := hbb5.trans ((Bl.out hV).mono hbb5.size)
        have H7 := H5.below (Bl.out hV)
        have ks7 := ((Bl.out hV).cell (p := ⟨w.heap.size, 0, none⟩) (World.block_lt_of_cell? _ _ ks5)).trans ks5
        have c47 := H7.c4
        have xw7 := ((Bl.out hV).cell (p := ⟨bw, ow + j, none⟩) (World.block_lt_of_cell? _ _ xw)).trans xw
        clear ho5 hbb5 H5 ks5 k05 k15 ki5 c45 xw
        cases ob with
        | true =>
          have HE : Hid (rnF n L ah d v S (R.take (k + 1)) = rnF n L ah d v S (R.take k) ++ [(s : Int)]) := HN2.out
          have hba7 := below_alloc W7 (.cells #[.int .i64 (s : Int)] 3)
          clear HN2
          go_wp2_with (refine wpList_app _ rfl (.tmp 47) (.tmp 55) 30 rfl .i64 3 i0 (.int .i64 0) 8 Try.underlying30 hi0 hz0 hz1 hz2 rfl V0.heap.size p' n' c' _ rfl (ho7.below hba7) _ _ _ _ rfl (Rd.one _ _ _ _) ?c1 ?c2 ?c3 ?_)
          case c1 => omega
          case c2 => unfold maxLen; omega
          case c3 => have := hb7.size; simp; omega
          intro p8 c8 w8 ho8 hb8
          have hb9 := (hb7.trans (hba7.mono hb7.size)).trans hb8
          clear H7 ks7 c47 xw7 hba7 hb8 ho7
          go_wp2_with fail
          go_roundw
          case rel => exact ⟨k + 1, p8, n' + 1, c8, by omega, by go_num, by first | rfl | simp, by omega, by rw [HE.out]; exact ho8, hb9⟩
          case measure => simp [intOf]; omega
        | false =>
          have HE : Hid (rnF n L ah d v S (R.take (k + 1)) = rnF n L ah d v S (R.take k)) := by
            unfold Hid
            rw [HN2.out, if_neg (by decide), List.append_nil]
          clear HN2 H7 ks7 c47 xw7
          go_wp2_with fail
          go_roundw
          case rel => exact ⟨k + 1, p', n', c', by omega, by go_num, rfl, by omega, by rw [HE.out]; exact ho7, hb7⟩
          case measure => simp [intOf]; omega
    · have HE : Hid (rnF n L ah d v S R = rnF n L ah d v S (R.take k)) := by unfold Hid; rw [List.take_of_length_le (by omega)]
      have hbw := hbb.trans (hb.mono hbb.size)
      have hki : ¬ (k : Int) < (rn : Int) := by omega
      go_wp2_with fail
      go_ret
      exact ⟨p', n', c', rfl, by omega, by rw [HE.out]; exact ho.lower hbb.size, hbw⟩

end Go.Proofs.Ytmfmjoibofadlaa.M
