/-
  Own text: a shelf of a table.
-/
import Derived.Test.YtnbgdkdnlfomeaaDoorBCk
namespace Go.Proofs.YtnbgdkdnlfomeaaDoor.M
open Go.ChangeShapes Go.WideShapes Go.ChangeAt Go.RowKit Go.ChangeMaps Go.MapKept Go.Maps Go.Shelf Go.Proofs
set_option linter.unusedSimpArgs false

/-- The shelf of a table. -/
def frS (ix ep : Int) (C : List Ce) (D : List Dn) : Sh := ⟨smOf ix ep C D, [], ix⟩

theorem dons_cs : ∀ (D : List Dn) (m : Sm), (D.foldl Sm.don m).cs = m.cs ∧ (D.foldl Sm.don m).ix = m.ix ∧ (D.foldl Sm.don m).ep = m.ep
  | [], _ => ⟨rfl, rfl, rfl⟩
  | d :: D, m => dons_cs D (m.don d)

theorem cels_cs : ∀ (C : List Ce) (m : Sm), (∀ c ∈ (C.foldl Sm.cel m).cs, c ∈ m.cs ∨ c ∈ C) ∧ (C.foldl Sm.cel m).ix = m.ix ∧ (C.foldl Sm.cel m).ep = m.ep
  | [], _ => ⟨fun _ h => Or.inl h, rfl, rfl⟩
  | x :: C, m => by
    obtain ⟨h1, h2, h3⟩ := cels_cs C (m.cel x)
    refine ⟨fun c hc => ?_, h2, h3⟩
    rcases h1 c hc with h | h
    · rcases putC_mem h with h | h | h
      · exact Or.inr (h ▸ List.mem_cons_self ..)
      · exact Or.inl h.1
      · exact Or.inl h
    · exact Or.inr (List.mem_cons_of_mem _ h)

theorem smOf_cs (ix ep : Int) (C : List Ce) (D : List Dn) : (∀ c ∈ (smOf ix ep C D).cs, c ∈ C) ∧ (smOf ix ep C D).ix = ix ∧ (smOf ix ep C D).ep = ep := by
  unfold smOf
  obtain ⟨h1, h2, h3⟩ := dons_cs D (C.foldl Sm.cel ⟨ix, ep, [], fun _ => .z0⟩)
  obtain ⟨k1, k2, k3⟩ := cels_cs C ⟨ix, ep, [], fun _ => .z0⟩
  refine ⟨fun c hc => ?_, h2.trans k2, h3.trans k3⟩
  rw [h1] at hc
  exact (k1 c hc).elim (fun h => by cases h) id

theorem chk_ok {ix ep : Int} {C : List Ce} {D : List Dn} (h : chkE ix ep C D = 0) : isPl ix ep = true ∧ areC ix C = true ∧ areD ix D = true := by
  unfold chkE at h
  split at h
  · split at h
    · split at h
      · exact ⟨by assumption, by assumption, by assumption⟩
      · cases h
    · cases h
  · cases h

theorem areC_mem {ix : Int} {C : List Ce} (h : areC ix C = true) {c : Ce} (hc : c ∈ C) : 1 ≤ c.v ∧ c.v ≤ ix := by
  unfold areC at h
  simp only [Bool.and_eq_true, List.all_eq_true, List.mem_range] at h
  obtain ⟨i, hi⟩ := List.mem_iff_getElem?.1 hc
  obtain ⟨hl, e⟩ := List.getElem?_eq_some_iff.1 hi
  have h1 := h.2.1 i hl
  unfold ceO isVr at h1
  rw [List.getD_eq_getElem?_getD, hi] at h1
  simp only [Option.getD_some, Bool.and_eq_true, decide_eq_true_eq] at h1
  exact h1.2.2

theorem areD_mem {ix : Int} {D : List Dn} (h : areD ix D = true) {d : Dn} (hd : d ∈ D) : 0 ≤ d.c ∧ d.c < 4 := by
  unfold areD at h
  simp only [Bool.and_eq_true, List.all_eq_true, List.mem_range] at h
  obtain ⟨i, hi⟩ := List.mem_iff_getElem?.1 hd
  obtain ⟨hl, e⟩ := List.getElem?_eq_some_iff.1 hi
  have h1 := h.1 i hl
  unfold dnO isRq at h1
  rw [List.getD_eq_getElem?_getD, hi] at h1
  simp only [Option.getD_some, Bool.and_eq_true, decide_eq_true_eq] at h1
  exact ⟨h1.2.1.1, h1.2.1.2.1⟩

theorem frS_inv {ix ep : Int} {C : List Ce} {D : List Dn} (h : chkE ix ep C D = 0) : (frS ix ep C D).inv := by
  obtain ⟨h1, h2, h3⟩ := chk_ok h
  obtain ⟨k1, k2, k3⟩ := smOf_cs ix ep C D
  unfold isPl isNm at h1
  simp only [Bool.and_eq_true, decide_eq_true_eq] at h1
  obtain ⟨⟨⟨a1, a2⟩, _⟩, _⟩ := h1
  refine ⟨?_, ?_, ?_, ?_, Nat.zero_le _, (fun i hi => absurd hi (Nat.not_lt_zero _)), (fun x hx => by cases hx), fun c hc => ?_, (fun x hx => by cases hx)⟩
  · show 0 ≤ (smOf ix ep C D).ix
    rw [k2]
    exact a1
  · show (smOf ix ep C D).ix + 0 ≤ _
    rw [k2]
    omega
  · show (smOf ix ep C D).ix ≤ ix
    rw [k2]
    exact Int.le_refl _
  · show ix ≤ (smOf ix ep C D).ix + 0
    rw [k2]
    omega
  · show 1 ≤ c.v ∧ c.v ≤ (smOf ix ep C D).ix
    rw [k2]
    exact areC_mem h2 (k1 c hc)

set_option maxRecDepth 20000 in
set_option maxHeartbeats 2000000 in
theorem from_ok
    (ix ep : Int) (cp : Option Addr) (cn cc : Nat) (dp : Option Addr) (dn dc : Nat) (C : List Ce) (D : List Dn) (w : World) (hC : RdG celS w cp cn cc C) (hD : RdG donS w dp dn dc D) (hn : dn ≤ 1099511627776)
    (hck : ∀ c ∈ C, c.k < 18446744073709551616 ∧ c.s.size ≤ 9223372036854775807) (hTa : Tabs w) (hcn : cn ≤ 1099511627776) (hok : chkE ix ep C D = 0) :
    Calls Tryd.prog 38 #[.agg #[.int .i64 ix, .int .i64 ep, .slice cp cn cc, .slice dp dn dc]] w fun e w' => ∃ g b, e = .returned (.tuple #[.pointer (some ⟨g, 0, none⟩), .int .i64 0]) ∧ CZ w g b none 0 0 (frS ix ep C D) w' := by
  have HB := below_alloc' w (.cells #[.int .i64 ix, .int .i64 ep, .slice cp cn cc, .slice dp dn dc] 25)
  have hTb := At.new 25 w #[.int .i64 ix, .int .i64 ep, .slice cp cn cc, .slice dp dn dc]
  have hinv := frS_inv hok
  have hdc : ∀ d ∈ D, 0 ≤ d.c ∧ d.c < 4 := fun d hd => areD_mem (chk_ok hok).2.2 hd
  have hK := check_any ix ep cp cn cc dp dn dc C D (w.alloc (.cells #[.int .i64 ix, .int .i64 ep, .slice cp cn cc, .slice dp dn dc] 25)) (hC.below HB) (hD.below HB) hn hck (hTa.up HB)
  rw [hok] at hK
  replace hC := hC.below HB
  replace hD := hD.below HB
  generalize hW : (w.alloc (.cells #[.int .i64 ix, .int .i64 ep, .slice cp cn cc, .slice dp dn dc] 25)) = W0 at *
  have z0 := hTb.cell 0
  have z1 := hTb.cell 1
  have z2 := hTb.cell 2
  have z3 := hTb.cell 3
  simp only [List.getElem?_toArray, List.getElem?_cons_zero, List.getElem?_cons_succ] at z0 z1 z2 z3
  go_enter Tryd.func38, Tryd.ntmps38
  go_wp2_with fail
  refine hK.mono ?_
  rintro e w1 ⟨rfl, hb1⟩
  replace hC := hC.below hb1
  replace hD := hD.below hb1
  replace HB := HB.trans (hb1.mono HB.size)
  replace hTb := hTb.below hb1
  clear hK z0 z1 z2 z3 hW hb1
  go_wp2_with fail
  have hS0 : Bl w1 w1.drew := (Below.refl _ _).drew
  refine wp_region_det [0, 2, 3, 4, 6, 7] (Bl w1) (Bl w1) (by kernel_rfl) hS0 ?_
  refine wpDet_take ?vW0 (Bl.stays w1) (fun _ h => h) (i := 0) rfl (by kernel_rfl) (by kernel_rfl) (by kernel_rfl) (by kernel_rfl) (fun _ _ _ h => h) (Gives.value (by rfl) ?yW0) ?rW0
  case yW0 => (intro w' hSw; have z0 := At.cell (hTb.below (Bl.out hSw)) 0; have z1 := At.cell (hTb.below (Bl.out hSw)) 1; have z2 := At.cell (hTb.below (Bl.out hSw)) 2; have z3 := At.cell (hTb.below (Bl.out hSw)) 3; simp only [List.getElem?_toArray, List.getElem?_cons_zero, List.getElem?_cons_succ] at z0 z1 z2 z3; (try dsimp only at hSw); go_simp; try with_reducible rfl)
  (try simp only [Act.put, List.getElem_toArray, List.getElem_cons_zero, List.getElem_cons_succ, List.setIfInBounds_toArray, List.set_cons_zero, List.set_cons_succ])
  refine wpDet_take ?vW2 (Bl.stays w1) (fun _ h => h) (i := 2) rfl (by kernel_rfl) (by kernel_rfl) (by kernel_rfl) (by kernel_rfl) (fun _ _ _ h => h) (Gives.value (by rfl) ?yW2) ?rW2
  case yW2 => (intro w' hSw; (try dsimp only at hSw); go_simp; try with_reducible rfl)
  (try simp only [Act.put, List.getElem_toArray, List.getElem_cons_zero, List.getElem_cons_succ, List.setIfInBounds_toArray, List.set_cons_zero, List.set_cons_succ])
  refine wpDet_take ?vW3 (Bl.stays w1) (fun _ h => h) (i := 3) rfl (by kernel_rfl) (by kernel_rfl) (by kernel_rfl) (by kernel_rfl) (fun _ _ _ h => h) (Gives.value (by rfl) ?yW3) ?rW3
  case yW3 => (intro w' hSw; have z0 := At.cell (hTb.below (Bl.out hSw)) 0; have z1 := At.cell (hTb.below (Bl.out hSw)) 1; have z2 := At.cell (hTb.below (Bl.out hSw)) 2; have z3 := At.cell (hTb.below (Bl.out hSw)) 3; simp only [List.getElem?_toArray, List.getElem?_cons_zero, List.getElem?_cons_succ] at z0 z1 z2 z3; (try dsimp only at hSw); go_simp; try with_reducible rfl)
  (try simp only [Act.put, List.getElem_toArray, List.getElem_cons_zero, List.getElem_cons_succ, List.setIfInBounds_toArray, List.set_cons_zero, List.set_cons_succ])
  refine wpDet_ready (rs := [1]) (by kernel_rfl) (by simp) (AllDet.cons rfl (fun V hV K hK => ?_) AllDet.nil)
  rw [if_pos (by rfl)]
  have hbV := Bl.out hV
  have hC7 := sumsOf_any ix ep cp cn cc C dp dn dc D V (hC.below hbV) (hD.below hbV) (fun c hc => (hck c hc).1) hdc hcn hn
  refine wp_enterX 60 #[.agg #[.int .i64 ix, .int .i64 ep, .slice cp cn cc, .slice dp dn dc]] (by first | (go_simp; done) | (go_simp; rfl)) (fun x W => ∃ b', x = .agg #[.int .i64 (smOf ix ep C D).ix, .int .i64 (smOf ix ep C D).ep, .map (some b'), .int .i64 ((smOf ix ep C D).d 0).c, .int .i64 ((smOf ix ep C D).d 0).q, .int .i64 ((smOf ix ep C D).d 0).v, .int .i64 ((smOf ix ep C D).d 1).c, .int .i64 ((smOf ix ep C D).d 1).q, .int .i64 ((smOf ix ep C D).d 1).v, .int .i64 ((smOf ix ep C D).d 2).c, .int .i64 ((smOf ix ep C D).d 2).q, .int .i64 ((smOf ix ep C D).d 2).v, .int .i64 ((smOf ix ep C D).d 3).c, .int .i64 ((smOf ix ep C D).d 3).q, .int .i64 ((smOf ix ep C D).d 3).v] ∧ MC W b' (smOf ix ep C D).cs ∧ V.heap.size ≤ b' ∧ Below V.heap.size V W) (hC7.mono fun r w' ⟨b', h1, h2, h3, h4⟩ => ⟨_, h1, b', rfl, h2, h3, h4⟩) ?_
  rintro x7 V7 ⟨b7, rfl, hm7, hb7, hbl7⟩
  have hz7 : CW w1 b7 none 0 0 (frS ix ep C D) V7 := ⟨Bl.stays w1 V _ hV hbl7, hm7, OwG.none _ _ _ _, Nat.le_trans hbV.size hb7, fun k hk => absurd hk.1 (Nat.lt_irrefl _)⟩
  refine hK.out (CW w1 b7 none 0 0 (frS ix ep C D)) _ _ (CW.stays _ _ _ _ _ _) (fun _ _ h => h.bl) hz7 ?_
  clear hK K hV hC7 hbl7 hm7 hz7 hbV hb7
  (try simp only [Act.put, List.getElem_toArray, List.getElem_cons_zero, List.getElem_cons_succ, List.setIfInBounds_toArray, List.set_cons_zero, List.set_cons_succ])
  refine wpDet_take ?vW4 (CW.stays _ _ _ _ _ _) (fun _ h => h.bl) (i := 4) rfl (by kernel_rfl) (by kernel_rfl) (by kernel_rfl) (by kernel_rfl) (fun _ _ _ h => h) (Gives.value (by rfl) ?yW4) ?rW4
  case yW4 => (intro w' hSw; (try dsimp only at hSw); go_simp; try with_reducible rfl)
  (try simp only [Act.put, List.getElem_toArray, List.getElem_cons_zero, List.getElem_cons_succ, List.setIfInBounds_toArray, List.set_cons_zero, List.set_cons_succ])
  refine wpDet_ready (rs := [5]) (by kernel_rfl) (by simp) (AllDet.cons rfl (fun V hV K hK => ?_) AllDet.nil)
  rw [if_pos (by rfl)]
  refine wp_value (.pointer (some ⟨V.heap.size, 0, none⟩)) (V.alloc (.cells #[.int .i64 (smOf ix ep C D).ix, .int .i64 (smOf ix ep C D).ep, .map (some b7), .int .i64 ((smOf ix ep C D).d 0).c, .int .i64 ((smOf ix ep C D).d 0).q, .int .i64 ((smOf ix ep C D).d 0).v, .int .i64 ((smOf ix ep C D).d 1).c, .int .i64 ((smOf ix ep C D).d 1).q, .int .i64 ((smOf ix ep C D).d 1).v, .int .i64 ((smOf ix ep C D).d 2).c, .int .i64 ((smOf ix ep C D).d 2).q, .int .i64 ((smOf ix ep C D).d 2).v, .int .i64 ((smOf ix ep C D).d 3).c, .int .i64 ((smOf ix ep C D).d 3).q, .int .i64 ((smOf ix ep C D).d 3).v, .slice none 0 0, .int .i64 ix] 87)) (by first | (go_simp; done) | (go_simp; rfl)) ?_
  have hz9 := hV.boxed hinv
  refine hK.out (CZ w1 V.heap.size b7 none 0 0 (frS ix ep C D)) _ _ (CZ.stays _ _ _ _ _ _ _) (fun _ _ h => h.bl) hz9 ?_
  clear hK K hz9
  obtain ⟨gr, hgr⟩ : ∃ gr, gr = V.heap.size := ⟨_, rfl⟩
  rw [← hgr]
  clear hV hgr
  (try simp only [Act.put, List.getElem_toArray, List.getElem_cons_zero, List.getElem_cons_succ, List.setIfInBounds_toArray, List.set_cons_zero, List.set_cons_succ])
  refine wpDet_take ?vW6 (CZ.stays _ _ _ _ _ _ _) (fun _ h => h.bl) (i := 6) rfl (by kernel_rfl) (by kernel_rfl) (by kernel_rfl) (by kernel_rfl) (fun _ _ _ h => h) (Gives.value (by rfl) ?yW6) ?rW6
  case yW6 => (intro w' hSw; (try dsimp only at hSw); go_simp; try with_reducible rfl)
  (try simp only [Act.put, List.getElem_toArray, List.getElem_cons_zero, List.getElem_cons_succ, List.setIfInBounds_toArray, List.set_cons_zero, List.set_cons_succ])
  refine wpDet_take ?vW7 (CZ.stays _ _ _ _ _ _ _) (fun _ h => h.bl) (i := 7) rfl (by kernel_rfl) (by kernel_rfl) (by kernel_rfl) (by kernel_rfl) (fun _ _ _ h => h) (Gives.value (by rfl) ?yW7) ?rW7
  case yW7 => (intro w' hSw; (try dsimp only at hSw); go_simp; try with_reducible rfl)
  (try simp only [Act.put, List.getElem_toArray, List.getElem_cons_zero, List.getElem_cons_succ, List.setIfInBounds_toArray, List.set_cons_zero, List.set_cons_succ])
  refine wpDet_done (by kernel_rfl) (fun W9 hV => ?_) _
  go_wp2_with fail
  exact bodyPost_ret (v := .tuple #[.pointer (some ⟨gr, 0, none⟩), .int .i64 0]) (by simp [results, Tryd.results38, go_sem]) rfl ⟨gr, b7, rfl, HB.trans ((Bl.out hV.bl).mono HB.size), hV.sh, Nat.le_trans HB.size hV.ng, Nat.le_trans HB.size hV.nb, fun k hk => absurd hk.1 (Nat.lt_irrefl _)⟩

end Go.Proofs.YtnbgdkdnlfomeaaDoor.M
