/-
  Own text: Put and Sync of a tape, whatever comes of them.
-/
import Derived.Test.YtpjhadaiodnnaaaTSave3
import Derived.Test.YtpjhadaiodnnaaaTOpen0
namespace Go.Proofs.Ytpjhadaiodnnaaa.M
open Go.ChangeShapes Go.WideShapes Go.ChangeAt Go.RowKit
set_option linter.unusedSimpArgs false

/-- What a disk is behind an Append, and what is answered. -/
def ptM (m : PD) (i : Nat) (bs : List Int) : PD × Int := if m.room < m.used + bs.length then (m, 7) else (m.putAt i bs, goneE (m.gone bs.length))

theorem ptM_ok {m : PD} {s i : Nat} (h : m.ok s) (hi : i < 8) (bs : List Int) : (ptM m i bs).1.ok (s + bs.length) := by
  unfold ptM
  split
  · exact h.mono (Nat.le_add_right _ _)
  · exact h.putAt hi bs

theorem Append_any (w : World) (B : Nat) (own : Nat → Nat) (a g : Nat) (d : Dk) (m : PD) (s : Nat) (h : DA w B own a g d m) (hm : Fit m s) (hs : s ≤ 274877906944) (hB : B ≤ w.heap.size) (i : Nat) (hi : i < 8) (q : Option Addr) (l c : Nat) (ys : List Int) (hy : Rd .u8 w q l c ys) (hqg : ∀ x, q = some x → 0 < l → x.block ≠ g) (hl : l ≤ 274877906944) :
    Calls Try.prog 11 #[.pointer (some ⟨g, 0, none⟩), .int .i64 i, .slice q l c] w fun e w' => e = .returned (.int .i64 (ptM m i ys).2) ∧ ∃ own2 d2, DA w' B own2 a g d2 (ptM m i ys).1 ∧ (∀ k, k < w.heap.size → own2 k = own k) ∧ Ch (fun k => k = g ∨ own k = mark a i) w w' := by
  have hbl := hy.len
  by_cases hu : m.room < m.used + ys.length
  · have hW : ptM m i ys = (m, 7) := by unfold ptM; rw [if_pos hu]
    rw [hW]
    refine (Append_full w B own a g d m h hm.ok.r0 hm.up (hm.ok.few (by omega)) i hi q l c (by omega) (by omega) hm.ok.r1).mono ?_
    rintro e w' ⟨rfl, hb⟩
    exact ⟨rfl, own, d, h.below hb, fun _ _ => rfl, Ch.of_below hb _⟩
  · have hW : ptM m i ys = (m.putAt i ys, goneE (m.gone ys.length)) := by unfold ptM; rw [if_neg hu]
    rw [hW]
    have h2 := Append_gen w B own a g d m h hm.ok.r0 hm.up (hm.ok.few (by omega)) hB i hi q l c ys hy hqg (by omega) (by omega) hm.ok.r1
    unfold PD.putAt
    rw [hbl]
    exact h2

/-- What Put leaves: the disk mz, and the tape as it was or with one record more. -/
def PtPost (B : Nat) (own : Nat → Nat) (a g gt : Nat) (t : TP) (Bv : Nat) (pb : Option Addr) (nb cb : Nat) (pr : Option Addr) (cr : Nat) (vs : List Value) (xs : List Int) (na : Nat) (mz : PD) (cz : Int) (w w' : World) : Prop :=
  ∃ own2 d2, DA w' B own2 a g d2 mz ∧ (∀ k, k < w.heap.size → own2 k = own k) ∧ Ch (fun k => k = g ∨ k = gt ∨ own k = mark a t.file ∨ ∃ x, pr = some x ∧ 0 < cr ∧ k = x.block) w w' ∧ ((cz = 0 ∧ ∃ pr2 cr2 q c, TB w' own2 g gt ⟨t.file, t.kept, ⟨t.r.gen, t.r.base, t.r.recs ++ [xs]⟩⟩ pb nb cb pr2 cr2 (vs ++ [.slice q na c]) ∧ TO w' own2 Bv g gt ⟨t.file, t.kept, ⟨t.r.gen, t.r.base, t.r.recs ++ [xs]⟩⟩ pb nb cb pr2 cr2 (vs ++ [.slice q na c])) ∨ (cz ≠ 0 ∧ TB w' own2 g gt t pb nb cb pr cr vs ∧ TO w' own2 Bv g gt t pb nb cb pr cr vs))

set_option maxRecDepth 20000 in
set_option maxHeartbeats 4000000 in
theorem TPut_any (w : World) (B : Nat) (own : Nat → Nat) (a g : Nat) (d : Dk) (m : PD) (ha : a ≤ 100) (h : DA w B own a g d m) (s : Nat) (hm : Fit m s) (hs : s ≤ 274877906944) (hB : B ≤ w.heap.size) (gt : Nat) (t : TP) (pb : Option Addr) (nb cb : Nat) (pr : Option Addr) (cr : Nat) (vs : List Value) (hT : TB w own g gt t pb nb cb pr cr vs) (hfile : t.file ≤ 1) (Bv : Nat) (hBv : Bv ≤ w.heap.size) (hTO : TO w own Bv g gt t pb nb cb pr cr vs) (hcount : t.r.recs.length < 1000000)
    (pa : Option Addr) (na ca : Nat) (xs : List Int) (hpa : Rd .u8 w pa na ca xs) (hby : By xs) (hna : na ≤ 8192) (hda : ∀ x, pa = some x → 0 < na → own x.block ≠ mark a t.file ∧ x.block ≠ g) :
    Calls Try.prog 23 #[.pointer (some ⟨gt, 0, none⟩), .slice pa na ca] w fun e w' => e = .returned (.int .i64 (ptM m t.file (sealL xs)).2) ∧ PtPost B own a g gt t Bv pb nb cb pr cr vs xs na (ptM m t.file (sealL xs)).1 (ptM m t.file (sealL xs)).2 w w' := by
  have hi8 : t.file < 8 := by omega
  obtain ⟨cz, HCZ⟩ : ∃ z, Hid (z = (ptM m t.file (sealL xs)).2) := ⟨_, rfl⟩
  obtain ⟨mz, HMZ⟩ : ∃ z, Hid (z = (ptM m t.file (sealL xs)).1) := ⟨_, rfl⟩
  rw [← HCZ.out, ← HMZ.out]
  have HSL : Hid ((sealL xs).length ≤ 8206) := sealL_len_le (by rw [hpa.len]; exact hna)
  have hgl : g < w.heap.size := h.dc.lt
  have hgtl : gt < w.heap.size := hT.blk.lt
  have hM := tmade_yes w gt g (hT.blk.cell 0)
  have hSe := seal_any pa na ca xs w hpa hby hna
  obtain ⟨i1, hi1, hy0, hy1, hy2⟩ := info_parts info1
  obtain ⟨n, HNN⟩ : ∃ z, z = t.r.recs.length := ⟨_, rfl⟩
  have HNn : Hid (n = t.r.recs.length) := HNN
  have HNA : Hid (na ≤ 1099511627776) := by show _ ≤ _; omega
  have HB1 : Hid ((n + 1) * 24 ≤ 140737488355328) := by show _ ≤ _; omega
  have HB2 : Hid (n + 1 ≤ maxLen) := by show _ ≤ _; unfold maxLen; omega
  clear HNN hna hcount
  go_enter Try.func23, Try.ntmps23
  go_wp2_with fail
  refine hM.mono ?_
  rintro e w0 ⟨rfl, hw0⟩
  subst hw0
  clear hM
  go_wp2_with fail
  refine hSe.mono ?_
  rintro e w1 ⟨p1, n1, c1, rfl, hO1, hb1⟩
  clear hSe
  have HRg : Hid (∀ x, p1 = some x → 0 < n1 → x.block ≠ g) := fun x e h0 => by
    have h2 := hO1.ltC' x e h0
    omega
  have HN1 : Hid (n1 ≤ 274877906944) := by show _ ≤ _; have := hO1.len; have := HSL.out; omega
  have hTw := hT.below hb1
  have hS0w : ∀ W, Bl w1 W → (W.cell? ⟨gt, 0, none⟩ = some (.pointer (some ⟨g, 0, none⟩)) ∧ W.cell? ⟨gt, 1, none⟩ = some (.int .i64 t.file)) := fun W hW => ⟨cell_below (Bl.out' hW) (hTw.blk.cell 0), cell_below (Bl.out' hW) (hTw.blk.cell 1)⟩
  have hS0 : Bl w1 w1.drew := (Below.refl _ _).drew
  clear hTw
  go_wp2_with fail
  refine wp_region_det [0, 1, 2, 3, 4, 5, 6, 7, 8] (fun W => W.cell? ⟨gt, 0, none⟩ = some (.pointer (some ⟨g, 0, none⟩)) ∧ W.cell? ⟨gt, 1, none⟩ = some (.int .i64 t.file)) (Bl w1) (by kernel_rfl) hS0 ?_
  refine wpDet_take ?vA0 (Bl.stays w1) hS0w (i := 0) rfl (by kernel_rfl) (by kernel_rfl) (by kernel_rfl) (by kernel_rfl) (fun _ _ _ h => h) (Gives.value (by rfl) ?yA0) ?rA0
  case yA0 => (intro w' hSw; (try dsimp only at hSw); go_simp; try with_reducible rfl)
  (try simp only [Act.put, List.getElem_toArray, List.getElem_cons_zero, List.getElem_cons_succ, List.setIfInBounds_toArray, List.set_cons_zero, List.set_cons_succ])
  refine wpDet_take ?vA1 (Bl.stays w1) hS0w (i := 1) rfl (by kernel_rfl) (by kernel_rfl) (by kernel_rfl) (by kernel_rfl) (fun _ _ _ h => h) (Gives.value (by rfl) ?yA1) ?rA1
  case yA1 => (intro w' hSw; (try dsimp only at hSw); go_simp; try with_reducible rfl)
  (try simp only [Act.put, List.getElem_toArray, List.getElem_cons_zero, List.getElem_cons_succ, List.setIfInBounds_toArray, List.set_cons_zero, List.set_cons_succ])
  refine wpDet_take ?vA2 (Bl.stays w1) hS0w (i := 2) rfl (by kernel_rfl) (by kernel_rfl) (by kernel_rfl) (by kernel_rfl) (fun _ _ _ h => h) (Gives.value (by rfl) ?yA2) ?rA2
  case yA2 => (intro w' hSw; (try dsimp only at hSw); go_simp; try with_reducible rfl)
  (try simp only [Act.put, List.getElem_toArray, List.getElem_cons_zero, List.getElem_cons_succ, List.setIfInBounds_toArray, List.set_cons_zero, List.set_cons_succ])
  refine wpDet_take ?vA3 (Bl.stays w1) hS0w (i := 3) rfl (by kernel_rfl) (by kernel_rfl) (by kernel_rfl) (by kernel_rfl) (fun _ _ _ h => h) (Gives.value (by rfl) ?yA3) ?rA3
  case yA3 => (intro w' hSw; have hz0 := hSw.1; (try dsimp only at hSw); go_simp; try with_reducible rfl)
  (try simp only [Act.put, List.getElem_toArray, List.getElem_cons_zero, List.getElem_cons_succ, List.setIfInBounds_toArray, List.set_cons_zero, List.set_cons_succ])
  refine wpDet_take ?vA4 (Bl.stays w1) hS0w (i := 4) rfl (by kernel_rfl) (by kernel_rfl) (by kernel_rfl) (by kernel_rfl) (fun _ _ _ h => h) (Gives.value (by rfl) ?yA4) ?rA4
  case yA4 => (intro w' hSw; (try dsimp only at hSw); go_simp; try with_reducible rfl)
  (try simp only [Act.put, List.getElem_toArray, List.getElem_cons_zero, List.getElem_cons_succ, List.setIfInBounds_toArray, List.set_cons_zero, List.set_cons_succ])
  refine wpDet_take ?vA5 (Bl.stays w1) hS0w (i := 5) rfl (by kernel_rfl) (by kernel_rfl) (by kernel_rfl) (by kernel_rfl) (fun _ _ _ h => h) (Gives.value (by rfl) ?yA5) ?rA5
  case yA5 => (intro w' hSw; (try dsimp only at hSw); go_simp; try with_reducible rfl)
  (try simp only [Act.put, List.getElem_toArray, List.getElem_cons_zero, List.getElem_cons_succ, List.setIfInBounds_toArray, List.set_cons_zero, List.set_cons_succ])
  refine wpDet_take ?vA6 (Bl.stays w1) hS0w (i := 6) rfl (by kernel_rfl) (by kernel_rfl) (by kernel_rfl) (by kernel_rfl) (fun _ _ _ h => h) (Gives.value (by rfl) ?yA6) ?rA6
  case yA6 => (intro w' hSw; (try dsimp only at hSw); go_simp; try with_reducible rfl)
  (try simp only [Act.put, List.getElem_toArray, List.getElem_cons_zero, List.getElem_cons_succ, List.setIfInBounds_toArray, List.set_cons_zero, List.set_cons_succ])
  refine wpDet_take ?vA7 (Bl.stays w1) hS0w (i := 7) rfl (by kernel_rfl) (by kernel_rfl) (by kernel_rfl) (by kernel_rfl) (fun _ _ _ h => h) (Gives.value (by rfl) ?yA7) ?rA7
  case yA7 => (intro w' hSw; have hz0 := hSw.2; (try dsimp only at hSw); go_simp; try with_reducible rfl)
  (try simp only [Act.put, List.getElem_toArray, List.getElem_cons_zero, List.getElem_cons_succ, List.setIfInBounds_toArray, List.set_cons_zero, List.set_cons_succ])
  refine wpDet_take ?vA8 (Bl.stays w1) hS0w (i := 8) rfl (by kernel_rfl) (by kernel_rfl) (by kernel_rfl) (by kernel_rfl) (fun _ _ _ h => h) (Gives.value (by rfl) ?yA8) ?rA8
  case yA8 => (intro w' hSw; (try dsimp only at hSw); go_simp; try with_reducible rfl)
  (try simp only [Act.put, List.getElem_toArray, List.getElem_cons_zero, List.getElem_cons_succ, List.setIfInBounds_toArray, List.set_cons_zero, List.set_cons_succ])
  refine wpDet_ready (rs := [9]) (by kernel_rfl) (by simp) (AllDet.cons rfl (fun V hV K hK => ?_) AllDet.nil)
  rw [if_pos (by rfl)]
  have hbV := Bl.out' hV
  have hbV0 := hb1.trans (hbV.mono hb1.size)
  have hA := Append_any V B own a g d m s (h.below hbV0) hm hs (Nat.le_trans hB hbV0.size) t.file hi8 p1 n1 c1 _ (hO1.below hbV).rd (fun x e h0 => HRg.out x e h0) HN1.out
  rw [← HCZ.out, ← HMZ.out] at hA
  refine wp_enterX 11 #[.pointer (some ⟨g, 0, none⟩), .int .i64 t.file, .slice p1 n1 c1] (by first | (go_simp; done) | (go_simp; rfl)) (fun v V' => v = .int .i64 cz ∧ ∃ own1 d1, DA V' B own1 a g d1 mz ∧ (∀ k, k < V.heap.size → own1 k = own k) ∧ Ch (fun k => k = g ∨ own k = mark a t.file) V V') (hA.mono fun e V' ⟨h1, h2⟩ => ⟨_, h1, rfl, h2⟩) ?_
  rintro v V1 ⟨rfl, own1, d1, h1, ho1, hc1⟩
  have hT1 := TB.ch ha hi8 (hT.below hbV0) hc1 ho1
  have hTO1 := ((hTO.below hbV0).ch hc1 (fun k hk _ => hk.not ha hi8) (fun k hk e => (ho1 k hk).trans e))
  have hpa1 := (hpa.below hbV0).ch0 hc1 (fun x e h0 => by intro e2; exact e2.elim (hda x e h0).2 (hda x e h0).1)
  have hcc := (Ch.of_below hbV0 (fun k => k = g ∨ own k = mark a t.file)).trans hc1
  have hoo : ∀ k, k < w0.heap.size → own1 k = own k := fun k hk => ho1 k (Nat.lt_of_lt_of_le hk hbV0.size)
  have c01 := hT1.blk.cell 0
  have c11 := hT1.blk.cell 1
  have hS1w : ∀ W, Bl V1 W → (W.cell? ⟨gt, 0, none⟩ = some (.pointer (some ⟨g, 0, none⟩)) ∧ W.cell? ⟨gt, 1, none⟩ = some (.int .i64 t.file)) := fun W hW => ⟨cell_below (Bl.out' hW) c01, cell_below (Bl.out' hW) c11⟩
  refine hK.out (Bl V1) _ _ (Bl.stays V1) (fun _ W h => hS1w W h) (Below.refl _ _) ?_
  clear hK K hV hA ho1 hc1 hbV hbV0 c01 c11
  (try simp only [Act.put, List.getElem_toArray, List.getElem_cons_zero, List.getElem_cons_succ, List.setIfInBounds_toArray, List.set_cons_zero, List.set_cons_succ])
  refine wpDet_ready (rs := [10]) (by kernel_rfl) (by simp) (AllDet.cons rfl (fun V hV K hK => ?_) AllDet.nil)
  rw [if_pos (by rfl)]
  refine wp_value (.int .i64 cz) V (by first | (go_simp; done) | (go_simp; rfl)) ?_
  refine hK.out (Bl V1) _ _ (Bl.stays V1) (fun _ W h => hS1w W h) hV ?_
  clear hK K hV
  (try simp only [Act.put, List.getElem_toArray, List.getElem_cons_zero, List.getElem_cons_succ, List.setIfInBounds_toArray, List.set_cons_zero, List.set_cons_succ])
  refine wpDet_done (by kernel_rfl) (fun W2 hW2 => ?_) _
  have hbW := Bl.out' hW2
  have hT2 := hT1.below hbW
  have hD2 := h1.below hbW
  have hTO2 := hTO1.below hbW
  have hpa2 := hpa1.below hbW
  have hc2 := hcc.trans (Ch.of_below hbW _)
  by_cases hcz : cz = 0
  · clear HCZ
    subst hcz
    have HOv : Hid (OwG 22 W2 Bv pr n cr vs) := by show OwG _ _ _ _ _ _ _; rw [HNn.out]; exact hTO2.rcs
    have HBv : Hid (Bv ≤ W2.heap.size) := Nat.le_trans hBv hc2.size
    have c5 := hT2.blk.cell 5
    have hS2w : ∀ W, Bl W2 W → W.cell? ⟨gt, 5, none⟩ = some (.slice pr n cr) := fun W hW => by rw [HNn.out]; exact cell_below (Bl.out' hW) c5
    have hS2 : Bl W2 W2.drew := (Below.refl _ _).drew
    clear hS1w hW2 hbW h1 hT1 hTO1 hpa1 hcc hS0w hS0 c5
    go_wp2_with fail
    refine wp_region_det [0, 1, 2, 3, 4, 5, 6] (fun W => W.cell? ⟨gt, 5, none⟩ = some (.slice pr n cr)) (Bl W2) (by kernel_rfl) hS2 ?_
    refine wpDet_take ?vB0 (Bl.stays W2) hS2w (i := 0) rfl (by kernel_rfl) (by kernel_rfl) (by kernel_rfl) (by kernel_rfl) (fun _ _ _ h => h) (Gives.value (by rfl) ?yB0) ?rB0
    case yB0 => (intro w' hSw; (try dsimp only at hSw); go_simp; try with_reducible rfl)
    (try simp only [Act.put, List.getElem_toArray, List.getElem_cons_zero, List.getElem_cons_succ, List.setIfInBounds_toArray, List.set_cons_zero, List.set_cons_succ])
    refine wpDet_take ?vB1 (Bl.stays W2) hS2w (i := 1) rfl (by kernel_rfl) (by kernel_rfl) (by kernel_rfl) (by kernel_rfl) (fun _ _ _ h => h) (Gives.value (by rfl) ?yB1) ?rB1
    case yB1 => (intro w' hSw; (try dsimp only at hSw); go_simp; try with_reducible rfl)
    (try simp only [Act.put, List.getElem_toArray, List.getElem_cons_zero, List.getElem_cons_succ, List.setIfInBounds_toArray, List.set_cons_zero, List.set_cons_succ])
    refine wpDet_take ?vB2 (Bl.stays W2) hS2w (i := 2) rfl (by kernel_rfl) (by kernel_rfl) (by kernel_rfl) (by kernel_rfl) (fun _ _ _ h => h) (Gives.value (by rfl) ?yB2) ?rB2
    case yB2 => (intro w' hSw; (try dsimp only at hSw); go_simp; try with_reducible rfl)
    (try simp only [Act.put, List.getElem_toArray, List.getElem_cons_zero, List.getElem_cons_succ, List.setIfInBounds_toArray, List.set_cons_zero, List.set_cons_succ])
    refine wpDet_take ?vB3 (Bl.stays W2) hS2w (i := 3) rfl (by kernel_rfl) (by kernel_rfl) (by kernel_rfl) (by kernel_rfl) (fun _ _ _ h => h) (Gives.value (by rfl) ?yB3) ?rB3
    case yB3 => (intro w' hSw; (try dsimp only at hSw); go_simp; try with_reducible rfl)
    (try simp only [Act.put, List.getElem_toArray, List.getElem_cons_zero, List.getElem_cons_succ, List.setIfInBounds_toArray, List.set_cons_zero, List.set_cons_succ])
    refine wpDet_take ?vB4 (Bl.stays W2) hS2w (i := 4) rfl (by kernel_rfl) (by kernel_rfl) (by kernel_rfl) (by kernel_rfl) (fun _ _ _ h => h) (Gives.value (by rfl) ?yB4) ?rB4
    case yB4 => (intro w' hSw; (try dsimp only at hSw); go_simp; try with_reducible rfl)
    (try simp only [Act.put, List.getElem_toArray, List.getElem_cons_zero, List.getElem_cons_succ, List.setIfInBounds_toArray, List.set_cons_zero, List.set_cons_succ])
    refine wpDet_take ?vB5 (Bl.stays W2) hS2w (i := 5) rfl (by kernel_rfl) (by kernel_rfl) (by kernel_rfl) (by kernel_rfl) (fun _ _ _ h => h) (Gives.value (by rfl) ?yB5) ?rB5
    case yB5 => (intro w' hSw; have hz0 := hSw; (try dsimp only at hSw); go_simp; try with_reducible rfl)
    (try simp only [Act.put, List.getElem_toArray, List.getElem_cons_zero, List.getElem_cons_succ, List.setIfInBounds_toArray, List.set_cons_zero, List.set_cons_succ])
    refine wpDet_take ?vB6 (Bl.stays W2) hS2w (i := 6) rfl (by kernel_rfl) (by kernel_rfl) (by kernel_rfl) (by kernel_rfl) (fun _ _ _ h => h) (Gives.value (by rfl) ?yB6) ?rB6
    case yB6 => (intro w' hSw; (try dsimp only at hSw); go_simp; try with_reducible rfl)
    (try simp only [Act.put, List.getElem_toArray, List.getElem_cons_zero, List.getElem_cons_succ, List.setIfInBounds_toArray, List.set_cons_zero, List.set_cons_succ])
    refine wpDet_ready (rs := [7]) (by kernel_rfl) (by simp) (AllDet.cons rfl (fun V hV K hK => ?_) AllDet.nil)
    rw [if_pos (by rfl)]
    have hC := bcloneO pa na ca xs V (hpa2.below (Bl.out' hV)) HNA.out
    refine wp_enterX 61 #[.slice pa na ca] (by first | (go_simp; done) | (go_simp; rfl)) (fun v V' => ∃ p' c', v = .slice p' na c' ∧ Ow .u8 5 V' V.heap.size p' na c' xs ∧ Below V.heap.size V V') (hC.mono fun e V' ⟨p', c', h1, h2, h3⟩ => ⟨_, h1, p', c', rfl, h2, h3⟩) ?_
    rintro v V' ⟨p7, c7, rfl, ho7, hb7⟩
    refine hK.out (fun W => Bl W2 W ∧ Ow .u8 5 W W2.heap.size p7 na c7 xs) _ _ (fun W W' h hb => ⟨Bl.stays W2 W W' h.1 hb, h.2.below hb⟩) (fun _ W h => hS2w W h.1) ⟨Bl.stays W2 V V' hV hb7, ho7.lower (Bl.out' hV).size⟩ ?_
    clear hK K hC hV ho7 hb7
    (try simp only [Act.put, List.getElem_toArray, List.getElem_cons_zero, List.getElem_cons_succ, List.setIfInBounds_toArray, List.set_cons_zero, List.set_cons_succ])
    refine wpDet_ready (rs := [8]) (by kernel_rfl) (by simp) (AllDet.cons rfl (fun V hV K hK => ?_) AllDet.nil)
    rw [if_pos (by rfl)]
    refine wp_value (.slice (some ⟨V.heap.size, 0, none⟩) 1 1) (V.alloc (.cells #[.slice p7 na c7] 22)) (by first | (go_simp; done) | (go_simp; rfl)) ?_
    have hba := below_alloc V (.cells #[.slice p7 na c7] 22)
    have hA8 := At.new 22 V #[.slice p7 na c7]
    obtain ⟨gs, hgs⟩ : ∃ z, z = V.heap.size := ⟨_, rfl⟩
    rw [← hgs] at hA8 ⊢
    refine hK.out (fun W => Bl W2 W ∧ Ow .u8 5 W W2.heap.size p7 na c7 xs ∧ W.cell? ⟨gs, 0, none⟩ = some (.slice p7 na c7)) _ _ (fun W W' h hb => ⟨Bl.stays W2 W W' h.1 hb, h.2.1.below hb, cell_below hb h.2.2⟩) (fun _ W h => hS2w W h.1) ⟨Bl.stays W2 V _ hV.1 hba, hV.2.below hba, hA8.cell 0⟩ ?_
    clear hK K hV hba hA8 hgs
    (try simp only [Act.put, List.getElem_toArray, List.getElem_cons_zero, List.getElem_cons_succ, List.setIfInBounds_toArray, List.set_cons_zero, List.set_cons_succ])
    refine wpDet_ready (rs := [9]) (by kernel_rfl) (by simp) (AllDet.cons rfl (fun V hV K hK => ?_) AllDet.nil)
    rw [if_pos (by rfl)]
    have hbV := Bl.out' hV.1
    obtain ⟨p8, c8, V8, hrun, hO8, hg8, hk8⟩ := run_appG (P := Try.prog) (d := 1) V 31 31 22 i1 (.slice none 0 0) 24 Try.underlying31 hi1 hy0 hy1 hy2 rfl (HOv.out.below hbV) hV.2.2 rfl HB1.out HB2.out (Nat.le_trans HBv.out hbV.size)
    refine wp_app _ _ 31 rfl (.slice pr n cr) (.slice (some ⟨gs, 0, none⟩) 1 1) rfl rfl (.slice p8 (n + 1) c8) V8 hrun ?_
    have hP := put_mid ha HBv.out hD2 hTO2 hT2.blk hbV HNn.out hV.2.1 hO8 hg8 hk8
    have hA88 := hP.2.2.1
    refine hK.out (Bl V8) _ _ (Bl.stays V8) (fun _ W h => cell_below (Bl.out' h) (hA88.cell 5)) (Below.refl _ _) ?_
    clear hK K hV hrun hg8 hk8 hO8 hbV
    (try simp only [Act.put, List.getElem_toArray, List.getElem_cons_zero, List.getElem_cons_succ, List.setIfInBounds_toArray, List.set_cons_zero, List.set_cons_succ])
    refine wpDet_ready (rs := [10]) (by kernel_rfl) (by simp) (AllDet.cons rfl (fun V hV K hK => ?_) AllDet.nil)
    rw [if_pos (by rfl)]
    refine wp_value (.pointer (some ⟨gt, 0, none⟩)) V (by first | (go_simp; done) | (go_simp; rfl)) ?_
    refine hK.out (Bl V8) _ _ (Bl.stays V8) (no_lean (by kernel_rfl)) hV ?_
    clear hK K hV
    (try simp only [Act.put, List.getElem_toArray, List.getElem_cons_zero, List.getElem_cons_succ, List.setIfInBounds_toArray, List.set_cons_zero, List.set_cons_succ])
    refine wpDet_ready (rs := [11]) (by kernel_rfl) (by simp) (AllDet.cons rfl (fun V hV K hK => ?_) AllDet.nil)
    rw [if_pos (by rfl)]
    refine wp_value (.pointer (some ⟨gt, 3, none⟩)) V (by first | (go_simp; done) | (go_simp; rfl)) ?_
    refine hK.out (Bl V8) _ _ (Bl.stays V8) (no_lean (by kernel_rfl)) hV ?_
    clear hK K hV
    (try simp only [Act.put, List.getElem_toArray, List.getElem_cons_zero, List.getElem_cons_succ, List.setIfInBounds_toArray, List.set_cons_zero, List.set_cons_succ])
    refine wpDet_ready (rs := [12]) (by kernel_rfl) (by simp) (AllDet.cons rfl (fun V hV K hK => ?_) AllDet.nil)
    rw [if_pos (by rfl)]
    refine wp_value (.pointer (some ⟨gt, 5, none⟩)) V (by first | (go_simp; done) | (go_simp; rfl)) ?_
    refine hK.out (Bl V8) _ _ (Bl.stays V8) (no_lean (by kernel_rfl)) hV ?_
    clear hK K hV
    (try simp only [Act.put, List.getElem_toArray, List.getElem_cons_zero, List.getElem_cons_succ, List.setIfInBounds_toArray, List.set_cons_zero, List.set_cons_succ])
    refine wpDet_ready (rs := [13]) (by kernel_rfl) (by simp) (AllDet.cons rfl (fun V hV K hK => ?_) AllDet.nil)
    rw [if_pos (by rfl)]
    have hAV := hA88.below (Bl.out' hV)
    refine wp_store_slice _ _ _ rfl gt 5 p8 (n + 1) c8 _ rfl rfl sizeSlV (hAV.cell 5) (hAV.free 5) ?_
    have hE : Ex gt V8 (V.setCell ⟨gt, 5, none⟩ (.slice p8 (n + 1) c8)) := (Ex.of_below (Bl.out' hV)).trans ((Ex.refl gt V).setCell 5 _)
    have hAs := heap_setCell_same V gt 5 _ _ (.slice p8 (n + 1) c8) hAV
    refine hK.out (fun W => Ex gt V8 W ∧ At 74 W gt #[.pointer (some ⟨g, 0, none⟩), .int .i64 t.file, .int .i64 t.kept, .int .i64 t.r.gen, .slice pb nb cb, .slice p8 (n + 1) c8]) _ _ (fun W W' h hb => ⟨h.1.trans (Ex.of_below hb), h.2.below hb⟩) (no_lean (by kernel_rfl)) ⟨hE, hAs⟩ ?_
    clear hK K hV hAV hE hAs
    (try simp only [Act.put, List.getElem_toArray, List.getElem_cons_zero, List.getElem_cons_succ, List.setIfInBounds_toArray, List.set_cons_zero, List.set_cons_succ])
    refine wpDet_done (by kernel_rfl) (fun W9 hW9 => ?_) _
    obtain ⟨hE9, hA9⟩ := hW9
    obtain ⟨hD8, hTO8, _, hc8⟩ := hP
    have hot : farO own1 W2.heap.size V8.heap.size gt = farM := (farO_low hT2.blk.lt).trans hT2.fg.1
    have hD9 := hD8.exF ha hE9 hot hT.fg.2
    have hTO9 := hTO8.ch (Ch.of_ex hE9) (fun k _ hk => hk) (fun _ _ e => e)
    have hT9 := hTO9.tb (by
      show At 74 W9 gt #[.pointer (some ⟨g, 0, none⟩), .int .i64 t.file, .int .i64 t.kept, .int .i64 t.r.gen, .slice pb nb cb, .slice p8 (t.r.recs ++ [xs]).length c8]
      rw [List.length_append, ← HNn.out]
      exact hA9) ⟨hot, hT.fg.2⟩
    have hcF : Ch (fun k => k = g ∨ k = gt ∨ own k = mark a t.file ∨ ∃ x, pr = some x ∧ 0 < cr ∧ k = x.block) w0 W9 := ((hc2.mono (T := fun k => k = g ∨ k = gt ∨ own k = mark a t.file ∨ ∃ x, pr = some x ∧ 0 < cr ∧ k = x.block) (fun k _ e => e.elim Or.inl fun e => Or.inr (Or.inr (Or.inl e)))).then hc8 (fun k _ e => Or.inr (Or.inr (Or.inr e)))).then (Ch.of_ex hE9) (fun k _ e => Or.inr (Or.inl e))
    have hoF : ∀ k, k < w0.heap.size → farO own1 W2.heap.size V8.heap.size k = own k := fun k hk => (farO_low (Nat.lt_of_lt_of_le hk hc2.size)).trans (hoo k hk)
    clear hS2w hS2 hi1 hy0 hy1 hy2 HOv
    go_wp2_with fail
    go_ret
    exact ⟨rfl, _, d1, hD9, hoF, hcF, Or.inl ⟨rfl, p8, c8, p7, c7, hT9, hTO9⟩⟩

  · have hczn : (cz != 0) = true := by simpa using hcz
    have HR : Hid (PtPost B own a g gt t Bv pb nb cb pr cr vs xs na mz cz w0 W2) :=
      ⟨own1, d1, hD2, hoo, hc2.mono (fun k _ e => e.elim Or.inl (fun e => Or.inr (Or.inr (Or.inl e)))), Or.inr ⟨hcz, hT2, hTO2⟩⟩
    clear hT2 hD2 hTO2 hpa2 hc2 h hT hTO hS1w hW2 hbW h1 hT1 hTO1 hpa1 hcc hS0w hS0 hoo
    go_wp2_with fail
    go_ret
    exact ⟨rfl, HR.out⟩

set_option maxRecDepth 20000 in
theorem TPut_long (w : World) (gt g : Nat) (h0 : w.cell? ⟨gt, 0, none⟩ = some (.pointer (some ⟨g, 0, none⟩))) (pa : Option Addr) (na ca : Nat) (hna : 8192 < na) :
    Calls Try.prog 23 #[.pointer (some ⟨gt, 0, none⟩), .slice pa na ca] w fun e w' => e = .returned (.int .i64 4) ∧ Below w.heap.size w w' := by
  have hM := tmade_yes w gt g h0
  have hS := seal_long pa na ca w hna
  clear h0 hna
  go_enter Try.func23, Try.ntmps23
  go_wp2_with fail
  refine hM.mono ?_
  rintro e w0 ⟨rfl, hw0⟩
  subst hw0
  clear hM
  go_wp2_with fail
  refine hS.mono ?_
  rintro e w1 ⟨rfl, hw1⟩
  subst hw1
  clear hS
  go_wp2_with fail
  go_ret
  exact ⟨rfl, Below.refl _ _⟩

/-- What Sync leaves: the disk mz, and the tape as it was or with all its records kept. -/
def SyPost (B : Nat) (own : Nat → Nat) (a g gt : Nat) (t : TP) (pb : Option Addr) (nb cb : Nat) (pr : Option Addr) (cr : Nat) (vs : List Value) (mz : PD) (cz : Int) (w w' : World) : Prop :=
  ∃ own2 d2, DA w' B own2 a g d2 mz ∧ (∀ k, k < w.heap.size → own2 k = own k) ∧ Ch (fun k => k = g ∨ k = gt ∨ own k = mark a t.file) w w' ∧ ((cz = 0 ∧ TB w' own2 g gt ⟨t.file, t.r.recs.length, t.r⟩ pb nb cb pr cr vs) ∨ (cz ≠ 0 ∧ TB w' own2 g gt t pb nb cb pr cr vs))

set_option maxRecDepth 20000 in
set_option maxHeartbeats 2000000 in
theorem TSync_any (w : World) (B : Nat) (own : Nat → Nat) (a g : Nat) (d : Dk) (m : PD) (ha : a ≤ 100) (h : DA w B own a g d m) (s : Nat) (hm : Fit m s) (hs : s ≤ 274877906944) (gt : Nat) (t : TP) (pb : Option Addr) (nb cb : Nat) (pr : Option Addr) (cr : Nat) (vs : List Value) (hT : TB w own g gt t pb nb cb pr cr vs) (hfile : t.file ≤ 1) :
    Calls Try.prog 20 #[.pointer (some ⟨gt, 0, none⟩)] w fun e w' => e = .returned (.int .i64 (goneE (m.gone 1))) ∧ SyPost B own a g gt t pb nb cb pr cr vs (m.syncAt t.file) (goneE (m.gone 1)) w w' := by
  have hi8 : t.file < 8 := by omega
  obtain ⟨cz, HCZ⟩ : ∃ z, Hid (z = goneE (m.gone 1)) := ⟨_, rfl⟩
  obtain ⟨mz, HMZ⟩ : ∃ z, Hid (z = m.syncAt t.file) := ⟨_, rfl⟩
  rw [← HCZ.out, ← HMZ.out]
  have hM := tmade_yes w gt g (hT.blk.cell 0)
  go_enter Try.func20, Try.ntmps20
  go_wp2_with fail
  refine hM.mono ?_
  rintro e w0 ⟨rfl, hw0⟩
  subst hw0
  clear hM
  have hS0w : ∀ W, Bl w0 W → (W.cell? ⟨gt, 0, none⟩ = some (.pointer (some ⟨g, 0, none⟩)) ∧ W.cell? ⟨gt, 1, none⟩ = some (.int .i64 t.file)) := fun W hW => ⟨cell_below (Bl.out' hW) (hT.blk.cell 0), cell_below (Bl.out' hW) (hT.blk.cell 1)⟩
  have hS0 : Bl w0 w0.drew := (Below.refl _ _).drew
  go_wp2_with fail
  refine wp_region_det [0, 1, 2, 3, 4, 5, 6, 7] (fun W => W.cell? ⟨gt, 0, none⟩ = some (.pointer (some ⟨g, 0, none⟩)) ∧ W.cell? ⟨gt, 1, none⟩ = some (.int .i64 t.file)) (Bl w0) (by kernel_rfl) hS0 ?_
  refine wpDet_take ?vA0 (Bl.stays w0) hS0w (i := 0) rfl (by kernel_rfl) (by kernel_rfl) (by kernel_rfl) (by kernel_rfl) (fun _ _ _ h => h) (Gives.value (by rfl) ?yA0) ?rA0
  case yA0 => (intro w' hSw; (try dsimp only at hSw); go_simp; try with_reducible rfl)
  (try simp only [Act.put, List.getElem_toArray, List.getElem_cons_zero, List.getElem_cons_succ, List.setIfInBounds_toArray, List.set_cons_zero, List.set_cons_succ])
  refine wpDet_take ?vA1 (Bl.stays w0) hS0w (i := 1) rfl (by kernel_rfl) (by kernel_rfl) (by kernel_rfl) (by kernel_rfl) (fun _ _ _ h => h) (Gives.value (by rfl) ?yA1) ?rA1
  case yA1 => (intro w' hSw; (try dsimp only at hSw); go_simp; try with_reducible rfl)
  (try simp only [Act.put, List.getElem_toArray, List.getElem_cons_zero, List.getElem_cons_succ, List.setIfInBounds_toArray, List.set_cons_zero, List.set_cons_succ])
  refine wpDet_take ?vA2 (Bl.stays w0) hS0w (i := 2) rfl (by kernel_rfl) (by kernel_rfl) (by kernel_rfl) (by kernel_rfl) (fun _ _ _ h => h) (Gives.value (by rfl) ?yA2) ?rA2
  case yA2 => (intro w' hSw; (try dsimp only at hSw); go_simp; try with_reducible rfl)
  (try simp only [Act.put, List.getElem_toArray, List.getElem_cons_zero, List.getElem_cons_succ, List.setIfInBounds_toArray, List.set_cons_zero, List.set_cons_succ])
  refine wpDet_take ?vA3 (Bl.stays w0) hS0w (i := 3) rfl (by kernel_rfl) (by kernel_rfl) (by kernel_rfl) (by kernel_rfl) (fun _ _ _ h => h) (Gives.value (by rfl) ?yA3) ?rA3
  case yA3 => (intro w' hSw; have hz0 := hSw.1; (try dsimp only at hSw); go_simp; try with_reducible rfl)
  (try simp only [Act.put, List.getElem_toArray, List.getElem_cons_zero, List.getElem_cons_succ, List.setIfInBounds_toArray, List.set_cons_zero, List.set_cons_succ])
  refine wpDet_take ?vA4 (Bl.stays w0) hS0w (i := 4) rfl (by kernel_rfl) (by kernel_rfl) (by kernel_rfl) (by kernel_rfl) (fun _ _ _ h => h) (Gives.value (by rfl) ?yA4) ?rA4
  case yA4 => (intro w' hSw; (try dsimp only at hSw); go_simp; try with_reducible rfl)
  (try simp only [Act.put, List.getElem_toArray, List.getElem_cons_zero, List.getElem_cons_succ, List.setIfInBounds_toArray, List.set_cons_zero, List.set_cons_succ])
  refine wpDet_take ?vA5 (Bl.stays w0) hS0w (i := 5) rfl (by kernel_rfl) (by kernel_rfl) (by kernel_rfl) (by kernel_rfl) (fun _ _ _ h => h) (Gives.value (by rfl) ?yA5) ?rA5
  case yA5 => (intro w' hSw; (try dsimp only at hSw); go_simp; try with_reducible rfl)
  (try simp only [Act.put, List.getElem_toArray, List.getElem_cons_zero, List.getElem_cons_succ, List.setIfInBounds_toArray, List.set_cons_zero, List.set_cons_succ])
  refine wpDet_take ?vA6 (Bl.stays w0) hS0w (i := 6) rfl (by kernel_rfl) (by kernel_rfl) (by kernel_rfl) (by kernel_rfl) (fun _ _ _ h => h) (Gives.value (by rfl) ?yA6) ?rA6
  case yA6 => (intro w' hSw; (try dsimp only at hSw); go_simp; try with_reducible rfl)
  (try simp only [Act.put, List.getElem_toArray, List.getElem_cons_zero, List.getElem_cons_succ, List.setIfInBounds_toArray, List.set_cons_zero, List.set_cons_succ])
  refine wpDet_take ?vA7 (Bl.stays w0) hS0w (i := 7) rfl (by kernel_rfl) (by kernel_rfl) (by kernel_rfl) (by kernel_rfl) (fun _ _ _ h => h) (Gives.value (by rfl) ?yA7) ?rA7
  case yA7 => (intro w' hSw; have hz0 := hSw.2; (try dsimp only at hSw); go_simp; try with_reducible rfl)
  (try simp only [Act.put, List.getElem_toArray, List.getElem_cons_zero, List.getElem_cons_succ, List.setIfInBounds_toArray, List.set_cons_zero, List.set_cons_succ])
  refine wpDet_ready (rs := [8]) (by kernel_rfl) (by simp) (AllDet.cons rfl (fun V hV K hK => ?_) AllDet.nil)
  rw [if_pos (by rfl)]
  have hbV := Bl.out' hV
  have hS : Calls Try.prog 54 #[.pointer (some ⟨g, 0, none⟩), .int .i64 t.file] V fun e w' => e = .returned (.int .i64 cz) ∧ ∃ own2 d2, DA w' B own2 a g d2 mz ∧ (∀ k, k < V.heap.size → own2 k = own k) ∧ Ch (fun k => k = g ∨ own k = mark a t.file) V w' := by
    rw [HCZ.out, HMZ.out]
    exact Sync_ok V B own a g d m (h.below hbV) hm.ok.r0 hm.up (hm.ok.few (by omega)) t.file hi8
  refine wp_enterX 54 #[.pointer (some ⟨g, 0, none⟩), .int .i64 t.file] (by first | (go_simp; done) | (go_simp; rfl)) (fun v V' => v = .int .i64 cz ∧ ∃ own1 d1, DA V' B own1 a g d1 mz ∧ (∀ k, k < V.heap.size → own1 k = own k) ∧ Ch (fun k => k = g ∨ own k = mark a t.file) V V') (hS.mono fun e V' ⟨h1, h2⟩ => ⟨_, h1, rfl, h2⟩) ?_
  rintro v V1 ⟨rfl, own1, d1, h1, ho1, hc1⟩
  have hT1 := TB.ch ha hi8 (hT.below hbV) hc1 ho1
  have hcc := (Ch.of_below hbV (fun k => k = g ∨ own k = mark a t.file)).trans hc1
  have hoo : ∀ k, k < w0.heap.size → own1 k = own k := fun k hk => ho1 k (Nat.lt_of_lt_of_le hk hbV.size)
  have c01 := hT1.blk.cell 0
  have c11 := hT1.blk.cell 1
  have hS1w : ∀ W, Bl V1 W → (W.cell? ⟨gt, 0, none⟩ = some (.pointer (some ⟨g, 0, none⟩)) ∧ W.cell? ⟨gt, 1, none⟩ = some (.int .i64 t.file)) := fun W hW => ⟨cell_below (Bl.out' hW) c01, cell_below (Bl.out' hW) c11⟩
  refine hK.out (Bl V1) _ _ (Bl.stays V1) (fun _ W h => hS1w W h) (Below.refl _ _) ?_
  clear hK K hV hS ho1 hc1 hbV c01 c11
  (try simp only [Act.put, List.getElem_toArray, List.getElem_cons_zero, List.getElem_cons_succ, List.setIfInBounds_toArray, List.set_cons_zero, List.set_cons_succ])
  refine wpDet_ready (rs := [9]) (by kernel_rfl) (by simp) (AllDet.cons rfl (fun V hV K hK => ?_) AllDet.nil)
  rw [if_pos (by rfl)]
  refine wp_value (.int .i64 cz) V (by first | (go_simp; done) | (go_simp; rfl)) ?_
  refine hK.out (Bl V1) _ _ (Bl.stays V1) (fun _ W h => hS1w W h) hV ?_
  clear hK K hV
  (try simp only [Act.put, List.getElem_toArray, List.getElem_cons_zero, List.getElem_cons_succ, List.setIfInBounds_toArray, List.set_cons_zero, List.set_cons_succ])
  refine wpDet_done (by kernel_rfl) (fun W2 hW2 => ?_) _
  have hbW := Bl.out' hW2
  have hT2 := hT1.below hbW
  have h2 := h1.below hbW
  have hc2 := hcc.trans (Ch.of_below hbW _)
  have c5 := hT2.blk.cell 5
  have c2 := hT2.blk.cell 2
  have f2 := hT2.blk.free 2
  have hot : own1 gt = farM := hT2.fg.1
  clear hS1w hW2 hbW h1 hT1 hcc hS0w hS0
  by_cases hcz : cz = 0
  · clear HCZ
    subst hcz
    go_wp2_with fail
    go_ret
    have hEx : Ex gt W2 (W2.setCell ⟨gt, 2, none⟩ (.int .i64 t.r.recs.length)) := (Ex.refl gt W2).setCell 2 _
    have hCx := Ch.of_ex hEx
    refine ⟨rfl, own1, d1, h2.exF ha hEx hot hT.fg.2, hoo, ?_, Or.inl ⟨rfl, ?_⟩⟩
    rotate_left
    · exact TB.put hT2 hEx t.file t.r.recs.length (heap_setCell_same W2 gt 2 _ _ _ hT2.blk)
    · exact (hc2.mono (T := fun k => k = g ∨ k = gt ∨ own k = mark a t.file) (fun k _ e => e.elim Or.inl fun e => Or.inr (Or.inr e))).then hCx (fun k _ e => Or.inr (Or.inl e))

  · have hczn : (cz != 0) = true := by simpa using hcz
    have HR : Hid (SyPost B own a g gt t pb nb cb pr cr vs mz cz w0 W2) := ⟨own1, d1, h2, hoo, hc2.mono (fun k _ e => e.elim Or.inl (fun e => Or.inr (Or.inr e))), Or.inr ⟨hcz, hT2⟩⟩
    clear h2 hoo hc2 hT2 c5 c2 f2 hot
    go_wp2_with fail
    go_ret
    exact ⟨rfl, HR.out⟩

end Go.Proofs.Ytpjhadaiodnnaaa.M
