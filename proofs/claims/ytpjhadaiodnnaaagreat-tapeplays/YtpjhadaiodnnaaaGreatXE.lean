/-
  Own text: Put and Sync of a tape, whatever comes of them.
  Own text: Put, Sync and Save of a tape in plain words, whatever comes of them.
  Own text: Open of a tape in plain words, whatever comes of it.
  Own text: contracts of bytes.Clone (in memory of its own), of a fuse's clone and of a file's.
  Own text: the contract of a disk's Clone.
  Own text: reels in plain words: what is loaded, of which bytes; what a tape's files are, and that it is opened as it was.
  Own text: a tape whose files are as they should be stays so, whatever is put and saved, on a disk without a fuse.
  Own text: calls of the statements over tapes as they lie in memory; what short answers, of any lists of them.
  Own text: what the form tells of an argument that is a list of calls of the statements over tapes.
  Own text: slices.Equal of texts.
  Own text: the example of the statements over tapes.
  Own text: what is asked of a tape, in one condition; a clone of its disk; what short tells of each call.
  Own text: Clone of a disk: the clone's memory is all new.
  Own text: two tapes beside one another; what is opened is opened once more as the same.
  Own text: two tapes that are played alike.
-/
import Derived.Test.YtpjhadaiodnnaaaGreatXD
import Derived.Test.YtpjhadaiodnnaaaGreatXA
import Derived.Test.YtpjhadaiodnnaaaGreatRows
import Derived.Lib.SlBytesConst
section
namespace Go.Proofs.YtpjhadaiodnnaaaGreat.M
open Go.ChangeShapes Go.WideShapes Go.ChangeAt Go.RowKit
set_option linter.unusedSimpArgs false

/-- What a disk is behind an Append, and what is answered. -/
def ptM (m : PD) (i : Nat) (bs : List Int) : PD × Int := if m.room < m.used + bs.length then (m, 7) else (m.putAt i bs, goneE (m.gone bs.length))

theorem ptM_ok {m : PD} {s i : Nat} (h : m.ok s) (hi : i < 8) (bs : List Int) : (ptM m i bs).1.ok (s + bs.length) := by
  unfold ptM
  split
  · exact h.mono (Nat.le_add_right _ _)
  · exact h.putAt hi bs

theorem Append_any (w : World) (B : Nat) (own : Nat → Nat) (a g : Nat) (d : Dk) (m : PD) (s : Nat) (h : DA w B own a g d m) (hm : Fit m s) (hs : s ≤ 274877906944) (hB : B ≤ w.heap.size) (i : Nat) (hi : i < 8) (q : Option Addr) (l c : Nat) (ys : List Int) (hy : Rd .u8 w q l c ys) (hqg : ∀ x, q = some x → 0 < l → x.block ≠ g) (hl : l ≤ 274877906944) :
    Calls Tryz.prog 52 #[.pointer (some ⟨g, 0, none⟩), .int .i64 i, .slice q l c] w fun e w' => e = .returned (.int .i64 (ptM m i ys).2) ∧ ∃ own2 d2, DA w' B own2 a g d2 (ptM m i ys).1 ∧ (∀ k, k < w.heap.size → own2 k = own k) ∧ Ch (fun k => k = g ∨ own k = mark a i) w w' := by
  have hbl := hy.len
  by_cases hu : m.room < m.used + ys.length
  · have hW : ptM m i ys = (m, 7) := by unfold ptM; rw [if_pos hu]
    rw [hW]
    refine (Append_full w B own a g d m h hm.ok.r0 hm.up (hm.ok.few (by omega)) i hi q l c (by omega) (by omega) hm.ok.r1).mono ?_
    rintro e w' ⟨rfl, hb⟩
    exact ⟨rfl, own, d, h.below hb, fun _ _ => rfl, Ch.of_below hb _⟩
  · have hW : ptM m i ys = (m.putAt i ys, goneE (m.gone ys.length)) := by unfold ptM; rw [if_neg hu]
    rw [hW]
    have h2 := Append_gen w B own a g d m h hm.ok.r0 hm.up (hm.ok.few (by omega)) hB i hi q l c ys hy hqg (by omega) (by omega) hm.ok.r1
    unfold PD.putAt
    rw [hbl]
    exact h2

/-- What Put leaves: the disk mz, and the tape as it was or with one record more. -/
def PtPost (B : Nat) (own : Nat → Nat) (a g gt : Nat) (t : TP) (Bv : Nat) (pb : Option Addr) (nb cb : Nat) (pr : Option Addr) (cr : Nat) (vs : List Value) (xs : List Int) (na : Nat) (mz : PD) (cz : Int) (w w' : World) : Prop :=
  ∃ own2 d2, DA w' B own2 a g d2 mz ∧ (∀ k, k < w.heap.size → own2 k = own k) ∧ Ch (fun k => k = g ∨ k = gt ∨ own k = mark a t.file ∨ ∃ x, pr = some x ∧ 0 < cr ∧ k = x.block) w w' ∧ ((cz = 0 ∧ ∃ pr2 cr2 q c, TB w' own2 g gt ⟨t.file, t.kept, ⟨t.r.gen, t.r.base, t.r.recs ++ [xs]⟩⟩ pb nb cb pr2 cr2 (vs ++ [.slice q na c]) ∧ TO w' own2 Bv g gt ⟨t.file, t.kept, ⟨t.r.gen, t.r.base, t.r.recs ++ [xs]⟩⟩ pb nb cb pr2 cr2 (vs ++ [.slice q na c])) ∨ (cz ≠ 0 ∧ TB w' own2 g gt t pb nb cb pr cr vs ∧ TO w' own2 Bv g gt t pb nb cb pr cr vs))

set_option maxRecDepth 20000 in
set_option maxHeartbeats 4000000 in
theorem TPut_any (w : World) (B : Nat) (own : Nat → Nat) (a g : Nat) (d : Dk) (m : PD) (ha : a ≤ 100) (h : DA w B own a g d m) (s : Nat) (hm : Fit m s) (hs : s ≤ 274877906944) (hB : B ≤ w.heap.size) (gt : Nat) (t : TP) (pb : Option Addr) (nb cb : Nat) (pr : Option Addr) (cr : Nat) (vs : List Value) (hT : TB w own g gt t pb nb cb pr cr vs) (hfile : t.file ≤ 1) (Bv : Nat) (hBv : Bv ≤ w.heap.size) (hTO : TO w own Bv g gt t pb nb cb pr cr vs) (hcount : t.r.recs.length < 1000000)
    (pa : Option Addr) (na ca : Nat) (xs : List Int) (hpa : Rd .u8 w pa na ca xs) (hby : By xs) (hna : na ≤ 8192) (hda : ∀ x, pa = some x → 0 < na → own x.block ≠ mark a t.file ∧ x.block ≠ g) :
    Calls Tryz.prog 21 #[.pointer (some ⟨gt, 0, none⟩), .slice pa na ca] w fun e w' => e = .returned (.int .i64 (ptM m t.file (sealL xs)).2) ∧ PtPost B own a g gt t Bv pb nb cb pr cr vs xs na (ptM m t.file (sealL xs)).1 (ptM m t.file (sealL xs)).2 w w' := by
  have hi8 : t.file < 8 := by omega
  obtain ⟨cz, HCZ⟩ : ∃ z, Hid (z = (ptM m t.file (sealL xs)).2) := ⟨_, rfl⟩
  obtain ⟨mz, HMZ⟩ : ∃ z, Hid (z = (ptM m t.file (sealL xs)).1) := ⟨_, rfl⟩
  rw [← HCZ.out, ← HMZ.out]
  have HSL : Hid ((sealL xs).length ≤ 8206) := sealL_len_le (by rw [hpa.len]; exact hna)
  have hgl : g < w.heap.size := h.dc.lt
  have hgtl : gt < w.heap.size := hT.blk.lt
  have hM := tmade_yes w gt g (hT.blk.cell 0)
  have hSe := seal_any pa na ca xs w hpa hby hna
  obtain ⟨i1, hi1, hy0, hy1, hy2⟩ := info_parts info1
  obtain ⟨n, HNN⟩ : ∃ z, z = t.r.recs.length := ⟨_, rfl⟩
  have HNn : Hid (n = t.r.recs.length) := HNN
  have HNA : Hid (na ≤ 1099511627776) := by show _ ≤ _; omega
  have HB1 : Hid ((n + 1) * 24 ≤ 140737488355328) := by show _ ≤ _; omega
  have HB2 : Hid (n + 1 ≤ maxLen) := by show _ ≤ _; unfold maxLen; omega
  clear HNN hna hcount
  go_enter Tryz.func21, Tryz.ntmps21
  go_wp2_with fail
  refine hM.mono ?_
  rintro e w0 ⟨rfl, hw0⟩
  subst hw0
  clear hM
  go_wp2_with fail
  refine hSe.mono ?_
  rintro e w1 ⟨p1, n1, c1, rfl, hO1, hb1⟩
  clear hSe
  have HRg : Hid (∀ x, p1 = some x → 0 < n1 → x.block ≠ g) := fun x e h0 => by
    have h2 := hO1.ltC' x e h0
    omega
  have HN1 : Hid (n1 ≤ 274877906944) := by show _ ≤ _; have := hO1.len; have := HSL.out; omega
  have hTw := hT.below hb1
  have hS0w : ∀ W, Bl w1 W → (W.cell? ⟨gt, 0, none⟩ = some (.pointer (some ⟨g, 0, none⟩)) ∧ W.cell? ⟨gt, 1, none⟩ = some (.int .i64 t.file)) := fun W hW => ⟨cell_below (Bl.out' hW) (hTw.blk.cell 0), cell_below (Bl.out' hW) (hTw.blk.cell 1)⟩
  have hS0 : Bl w1 w1.drew := (Below.refl _ _).drew
  clear hTw
  go_wp2_with fail
  refine wp_region_det [0, 1, 2, 3, 4, 5, 6, 7, 8] (fun W => W.cell? ⟨gt, 0, none⟩ = some (.pointer (some ⟨g, 0, none⟩)) ∧ W.cell? ⟨gt, 1, none⟩ = some (.int .i64 t.file)) (Bl w1) (by kernel_rfl) hS0 ?_
  refine wpDet_take ?vA0 (Bl.stays w1) hS0w (i := 0) rfl (by kernel_rfl) (by kernel_rfl) (by kernel_rfl) (by kernel_rfl) (fun _ _ _ h => h) (Gives.value (by rfl) ?yA0) ?rA0
  case yA0 => (intro w' hSw; (try dsimp only at hSw); go_simp; try with_reducible rfl)
  (try simp only [Act.put, List.getElem_toArray, List.getElem_cons_zero, List.getElem_cons_succ, List.setIfInBounds_toArray, List.set_cons_zero, List.set_cons_succ])
  refine wpDet_take ?vA1 (Bl.stays w1) hS0w (i := 1) rfl (by kernel_rfl) (by kernel_rfl) (by kernel_rfl) (by kernel_rfl) (fun _ _ _ h => h) (Gives.value (by rfl) ?yA1) ?rA1
  case yA1 => (intro w' hSw; (try dsimp only at hSw); go_simp; try with_reducible rfl)
  (try simp only [Act.put, List.getElem_toArray, List.getElem_cons_zero, List.getElem_cons_succ, List.setIfInBounds_toArray, List.set_cons_zero, List.set_cons_succ])
  refine wpDet_take ?vA2 (Bl.stays w1) hS0w (i := 2) rfl (by kernel_rfl) (by kernel_rfl) (by kernel_rfl) (by kernel_rfl) (fun _ _ _ h => h) (Gives.value (by rfl) ?yA2) ?rA2
  case yA2 => (intro w' hSw; (try dsimp only at hSw); go_simp; try with_reducible rfl)
  (try simp only [Act.put, List.getElem_toArray, List.getElem_cons_zero, List.getElem_cons_succ, List.setIfInBounds_toArray, List.set_cons_zero, List.set_cons_succ])
  refine wpDet_take ?vA3 (Bl.stays w1) hS0w (i := 3) rfl (by kernel_rfl) (by kernel_rfl) (by kernel_rfl) (by kernel_rfl) (fun _ _ _ h => h) (Gives.value (by rfl) ?yA3) ?rA3
  case yA3 => (intro w' hSw; have hz0 := hSw.1; (try dsimp only at hSw); go_simp; try with_reducible rfl)
  (try simp only [Act.put, List.getElem_toArray, List.getElem_cons_zero, List.getElem_cons_succ, List.setIfInBounds_toArray, List.set_cons_zero, List.set_cons_succ])
  refine wpDet_take ?vA4 (Bl.stays w1) hS0w (i := 4) rfl (by kernel_rfl) (by kernel_rfl) (by kernel_rfl) (by kernel_rfl) (fun _ _ _ h => h) (Gives.value (by rfl) ?yA4) ?rA4
  case yA4 => (intro w' hSw; (try dsimp only at hSw); go_simp; try with_reducible rfl)
  (try simp only [Act.put, List.getElem_toArray, List.getElem_cons_zero, List.getElem_cons_succ, List.setIfInBounds_toArray, List.set_cons_zero, List.set_cons_succ])
  refine wpDet_take ?vA5 (Bl.stays w1) hS0w (i := 5) rfl (by kernel_rfl) (by kernel_rfl) (by kernel_rfl) (by kernel_rfl) (fun _ _ _ h => h) (Gives.value (by rfl) ?yA5) ?rA5
  case yA5 => (intro w' hSw; (try dsimp only at hSw); go_simp; try with_reducible rfl)
  (try simp only [Act.put, List.getElem_toArray, List.getElem_cons_zero, List.getElem_cons_succ, List.setIfInBounds_toArray, List.set_cons_zero, List.set_cons_succ])
  refine wpDet_take ?vA6 (Bl.stays w1) hS0w (i := 6) rfl (by kernel_rfl) (by kernel_rfl) (by kernel_rfl) (by kernel_rfl) (fun _ _ _ h => h) (Gives.value (by rfl) ?yA6) ?rA6
  case yA6 => (intro w' hSw; (try dsimp only at hSw); go_simp; try with_reducible rfl)
  (try simp only [Act.put, List.getElem_toArray, List.getElem_cons_zero, List.getElem_cons_succ, List.setIfInBounds_toArray, List.set_cons_zero, List.set_cons_succ])
  refine wpDet_take ?vA7 (Bl.stays w1) hS0w (i := 7) rfl (by kernel_rfl) (by kernel_rfl) (by kernel_rfl) (by kernel_rfl) (fun _ _ _ h => h) (Gives.value (by rfl) ?yA7) ?rA7
  case yA7 => (intro w' hSw; have hz0 := hSw.2; (try dsimp only at hSw); go_simp; try with_reducible rfl)
  (try simp only [Act.put, List.getElem_toArray, List.getElem_cons_zero, List.getElem_cons_succ, List.setIfInBounds_toArray, List.set_cons_zero, List.set_cons_succ])
  refine wpDet_take ?vA8 (Bl.stays w1) hS0w (i := 8) rfl (by kernel_rfl) (by kernel_rfl) (by kernel_rfl) (by kernel_rfl) (fun _ _ _ h => h) (Gives.value (by rfl) ?yA8) ?rA8
  case yA8 => (intro w' hSw; (try dsimp only at hSw); go_simp; try with_reducible rfl)
  (try simp only [Act.put, List.getElem_toArray, List.getElem_cons_zero, List.getElem_cons_succ, List.setIfInBounds_toArray, List.set_cons_zero, List.set_cons_succ])
  refine wpDet_ready (rs := [9]) (by kernel_rfl) (by simp) (AllDet.cons rfl (fun V hV K hK => ?_) AllDet.nil)
  rw [if_pos (by rfl)]
  have hbV := Bl.out' hV
  have hbV0 := hb1.trans (hbV.mono hb1.size)
  have hA := Append_any V B own a g d m s (h.below hbV0) hm hs (Nat.le_trans hB hbV0.size) t.file hi8 p1 n1 c1 _ (hO1.below hbV).rd (fun x e h0 => HRg.out x e h0) HN1.out
  rw [← HCZ.out, ← HMZ.out] at hA
  refine wp_enterX 52 #[.pointer (some ⟨g, 0, none⟩), .int .i64 t.file, .slice p1 n1 c1] (by first | (go_simp; done) | (go_simp; rfl)) (fun v V' => v = .int .i64 cz ∧ ∃ own1 d1, DA V' B own1 a g d1 mz ∧ (∀ k, k < V.heap.size → own1 k = own k) ∧ Ch (fun k => k = g ∨ own k = mark a t.file) V V') (hA.mono fun e V' ⟨h1, h2⟩ => ⟨_, h1, rfl, h2⟩) ?_
  rintro v V1 ⟨rfl, own1, d1, h1, ho1, hc1⟩
  have hT1 := TB.ch ha hi8 (hT.below hbV0) hc1 ho1
  have hTO1 := ((hTO.below hbV0).ch hc1 (fun k hk _ => hk.not ha hi8) (fun k hk e => (ho1 k hk).trans e))
  have hpa1 := (hpa.below hbV0).ch0 hc1 (fun x e h0 => by intro e2; exact e2.elim (hda x e h0).2 (hda x e h0).1)
  have hcc := (Ch.of_below hbV0 (fun k => k = g ∨ own k = mark a t.file)).trans hc1
  have hoo : ∀ k, k < w0.heap.size → own1 k = own k := fun k hk => ho1 k (Nat.lt_of_lt_of_le hk hbV0.size)
  have c01 := hT1.blk.cell 0
  have c11 := hT1.blk.cell 1
  have hS1w : ∀ W, Bl V1 W → (W.cell? ⟨gt, 0, none⟩ = some (.pointer (some ⟨g, 0, none⟩)) ∧ W.cell? ⟨gt, 1, none⟩ = some (.int .i64 t.file)) := fun W hW => ⟨cell_below (Bl.out' hW) c01, cell_below (Bl.out' hW) c11⟩
  refine hK.out (Bl V1) _ _ (Bl.stays V1) (fun _ W h => hS1w W h) (Below.refl _ _) ?_
  clear hK K hV hA ho1 hc1 hbV hbV0 c01 c11
  (try simp only [Act.put, List.getElem_toArray, List.getElem_cons_zero, List.getElem_cons_succ, List.setIfInBounds_toArray, List.set_cons_zero, List.set_cons_succ])
  refine wpDet_ready (rs := [10]) (by kernel_rfl) (by simp) (AllDet.cons rfl (fun V hV K hK => ?_) AllDet.nil)
  rw [if_pos (by rfl)]
  refine wp_value (.int .i64 cz) V (by first | (go_simp; done) | (go_simp; rfl)) ?_
  refine hK.out (Bl V1) _ _ (Bl.stays V1) (fun _ W h => hS1w W h) hV ?_
  clear hK K hV
  (try simp only [Act.put, List.getElem_toArray, List.getElem_cons_zero, List.getElem_cons_succ, List.setIfInBounds_toArray, List.set_cons_zero, List.set_cons_succ])
  refine wpDet_done (by kernel_rfl) (fun W2 hW2 => ?_) _
  have hbW := Bl.out' hW2
  have hT2 := hT1.below hbW
  have hD2 := h1.below hbW
  have hTO2 := hTO1.below hbW
  have hpa2 := hpa1.below hbW
  have hc2 := hcc.trans (Ch.of_below hbW _)
  by_cases hcz : cz = 0
  · clear HCZ
    subst hcz
    have HOv : Hid (OwG 40 W2 Bv pr n cr vs) := by show OwG _ _ _ _ _ _ _; rw [HNn.out]; exact hTO2.rcs
    have HBv : Hid (Bv ≤ W2.heap.size) := Nat.le_trans hBv hc2.size
    have c5 := hT2.blk.cell 5
    have hS2w : ∀ W, Bl W2 W → W.cell? ⟨gt, 5, none⟩ = some (.slice pr n cr) := fun W hW => by rw [HNn.out]; exact cell_below (Bl.out' hW) c5
    have hS2 : Bl W2 W2.drew := (Below.refl _ _).drew
    clear hS1w hW2 hbW h1 hT1 hTO1 hpa1 hcc hS0w hS0 c5
    go_wp2_with fail
    refine wp_region_det [0, 1, 2, 3, 4, 5, 6] (fun W => W.cell? ⟨gt, 5, none⟩ = some (.slice pr n cr)) (Bl W2) (by kernel_rfl) hS2 ?_
    refine wpDet_take ?vB0 (Bl.stays W2) hS2w (i := 0) rfl (by kernel_rfl) (by kernel_rfl) (by kernel_rfl) (by kernel_rfl) (fun _ _ _ h => h) (Gives.value (by rfl) ?yB0) ?rB0
    case yB0 => (intro w' hSw; (try dsimp only at hSw); go_simp; try with_reducible rfl)
    (try simp only [Act.put, List.getElem_toArray, List.getElem_cons_zero, List.getElem_cons_succ, List.setIfInBounds_toArray, List.set_cons_zero, List.set_cons_succ])
    refine wpDet_take ?vB1 (Bl.stays W2) hS2w (i := 1) rfl (by kernel_rfl) (by kernel_rfl) (by kernel_rfl) (by kernel_rfl) (fun _ _ _ h => h) (Gives.value (by rfl) ?yB1) ?rB1
    case yB1 => (intro w' hSw; (try dsimp only at hSw); go_simp; try with_reducible rfl)
    (try simp only [Act.put, List.getElem_toArray, List.getElem_cons_zero, List.getElem_cons_succ, List.setIfInBounds_toArray, List.set_cons_zero, List.set_cons_succ])
    refine wpDet_take ?vB2 (Bl.stays W2) hS2w (i := 2) rfl (by kernel_rfl) (by kernel_rfl) (by kernel_rfl) (by kernel_rfl) (fun _ _ _ h => h) (Gives.value (by rfl) ?yB2) ?rB2
    case yB2 => (intro w' hSw; (try dsimp only at hSw); go_simp; try with_reducible rfl)
    (try simp only [Act.put, List.getElem_toArray, List.getElem_cons_zero, List.getElem_cons_succ, List.setIfInBounds_toArray, List.set_cons_zero, List.set_cons_succ])
    refine wpDet_take ?vB3 (Bl.stays W2) hS2w (i := 3) rfl (by kernel_rfl) (by kernel_rfl) (by kernel_rfl) (by kernel_rfl) (fun _ _ _ h => h) (Gives.value (by rfl) ?yB3) ?rB3
    case yB3 => (intro w' hSw; (try dsimp only at hSw); go_simp; try with_reducible rfl)
    (try simp only [Act.put, List.getElem_toArray, List.getElem_cons_zero, List.getElem_cons_succ, List.setIfInBounds_toArray, List.set_cons_zero, List.set_cons_succ])
    refine wpDet_take ?vB4 (Bl.stays W2) hS2w (i := 4) rfl (by kernel_rfl) (by kernel_rfl) (by kernel_rfl) (by kernel_rfl) (fun _ _ _ h => h) (Gives.value (by rfl) ?yB4) ?rB4
    case yB4 => (intro w' hSw; (try dsimp only at hSw); go_simp; try with_reducible rfl)
    (try simp only [Act.put, List.getElem_toArray, List.getElem_cons_zero, List.getElem_cons_succ, List.setIfInBounds_toArray, List.set_cons_zero, List.set_cons_succ])
    refine wpDet_take ?vB5 (Bl.stays W2) hS2w (i := 5) rfl (by kernel_rfl) (by kernel_rfl) (by kernel_rfl) (by kernel_rfl) (fun _ _ _ h => h) (Gives.value (by rfl) ?yB5) ?rB5
    case yB5 => (intro w' hSw; have hz0 := hSw; (try dsimp only at hSw); go_simp; try with_reducible rfl)
    (try simp only [Act.put, List.getElem_toArray, List.getElem_cons_zero, List.getElem_cons_succ, List.setIfInBounds_toArray, List.set_cons_zero, List.set_cons_succ])
    refine wpDet_take ?vB6 (Bl.stays W2) hS2w (i := 6) rfl (by kernel_rfl) (by kernel_rfl) (by kernel_rfl) (by kernel_rfl) (fun _ _ _ h => h) (Gives.value (by rfl) ?yB6) ?rB6
    case yB6 => (intro w' hSw; (try dsimp only at hSw); go_simp; try with_reducible rfl)
    (try simp only [Act.put, List.getElem_toArray, List.getElem_cons_zero, List.getElem_cons_succ, List.setIfInBounds_toArray, List.set_cons_zero, List.set_cons_succ])
    refine wpDet_ready (rs := [7]) (by kernel_rfl) (by simp) (AllDet.cons rfl (fun V hV K hK => ?_) AllDet.nil)
    rw [if_pos (by rfl)]
    have hC := bcloneO pa na ca xs V (hpa2.below (Bl.out' hV)) HNA.out
    refine wp_enterX 53 #[.slice pa na ca] (by first | (go_simp; done) | (go_simp; rfl)) (fun v V' => ∃ p' c', v = .slice p' na c' ∧ Ow .u8 5 V' V.heap.size p' na c' xs ∧ Below V.heap.size V V') (hC.mono fun e V' ⟨p', c', h1, h2, h3⟩ => ⟨_, h1, p', c', rfl, h2, h3⟩) ?_
    rintro v V' ⟨p7, c7, rfl, ho7, hb7⟩
    refine hK.out (fun W => Bl W2 W ∧ Ow .u8 5 W W2.heap.size p7 na c7 xs) _ _ (fun W W' h hb => ⟨Bl.stays W2 W W' h.1 hb, h.2.below hb⟩) (fun _ W h => hS2w W h.1) ⟨Bl.stays W2 V V' hV hb7, ho7.lower (Bl.out' hV).size⟩ ?_
    clear hK K hC hV ho7 hb7
    (try simp only [Act.put, List.getElem_toArray, List.getElem_cons_zero, List.getElem_cons_succ, List.setIfInBounds_toArray, List.set_cons_zero, List.set_cons_succ])
    refine wpDet_ready (rs := [8]) (by kernel_rfl) (by simp) (AllDet.cons rfl (fun V hV K hK => ?_) AllDet.nil)
    rw [if_pos (by rfl)]
    refine wp_value (.slice (some ⟨V.heap.size, 0, none⟩) 1 1) (V.alloc (.cells #[.slice p7 na c7] 40)) (by first | (go_simp; done) | (go_simp; rfl)) ?_
    have hba := below_alloc V (.cells #[.slice p7 na c7] 40)
    have hA8 := At.new 40 V #[.slice p7 na c7]
    obtain ⟨gs, hgs⟩ : ∃ z, z = V.heap.size := ⟨_, rfl⟩
    rw [← hgs] at hA8 ⊢
    refine hK.out (fun W => Bl W2 W ∧ Ow .u8 5 W W2.heap.size p7 na c7 xs ∧ W.cell? ⟨gs, 0, none⟩ = some (.slice p7 na c7)) _ _ (fun W W' h hb => ⟨Bl.stays W2 W W' h.1 hb, h.2.1.below hb, cell_below hb h.2.2⟩) (fun _ W h => hS2w W h.1) ⟨Bl.stays W2 V _ hV.1 hba, hV.2.below hba, hA8.cell 0⟩ ?_
    clear hK K hV hba hA8 hgs
    (try simp only [Act.put, List.getElem_toArray, List.getElem_cons_zero, List.getElem_cons_succ, List.setIfInBounds_toArray, List.set_cons_zero, List.set_cons_succ])
    refine wpDet_ready (rs := [9]) (by kernel_rfl) (by simp) (AllDet.cons rfl (fun V hV K hK => ?_) AllDet.nil)
    rw [if_pos (by rfl)]
    have hbV := Bl.out' hV.1
    obtain ⟨p8, c8, V8, hrun, hO8, hg8, hk8⟩ := run_appG (P := Tryz.prog) (d := 1) V 41 41 40 i1 (.slice none 0 0) 24 Tryz.underlying41 hi1 hy0 hy1 hy2 rfl (HOv.out.below hbV) hV.2.2 rfl HB1.out HB2.out (Nat.le_trans HBv.out hbV.size)
    refine wp_app _ _ 41 rfl (.slice pr n cr) (.slice (some ⟨gs, 0, none⟩) 1 1) rfl rfl (.slice p8 (n + 1) c8) V8 hrun ?_
    have hP := put_mid ha HBv.out hD2 hTO2 hT2.blk hbV HNn.out hV.2.1 hO8 hg8 hk8
    have hA88 := hP.2.2.1
    refine hK.out (Bl V8) _ _ (Bl.stays V8) (fun _ W h => cell_below (Bl.out' h) (hA88.cell 5)) (Below.refl _ _) ?_
    clear hK K hV hrun hg8 hk8 hO8 hbV
    (try simp only [Act.put, List.getElem_toArray, List.getElem_cons_zero, List.getElem_cons_succ, List.setIfInBounds_toArray, List.set_cons_zero, List.set_cons_succ])
    refine wpDet_ready (rs := [10]) (by kernel_rfl) (by simp) (AllDet.cons rfl (fun V hV K hK => ?_) AllDet.nil)
    rw [if_pos (by rfl)]
    refine wp_value (.pointer (some ⟨gt, 0, none⟩)) V (by first | (go_simp; done) | (go_simp; rfl)) ?_
    refine hK.out (Bl V8) _ _ (Bl.stays V8) (no_lean (by kernel_rfl)) hV ?_
    clear hK K hV
    (try simp only [Act.put, List.getElem_toArray, List.getElem_cons_zero, List.getElem_cons_succ, List.setIfInBounds_toArray, List.set_cons_zero, List.set_cons_succ])
    refine wpDet_ready (rs := [11]) (by kernel_rfl) (by simp) (AllDet.cons rfl (fun V hV K hK => ?_) AllDet.nil)
    rw [if_pos (by rfl)]
    refine wp_value (.pointer (some ⟨gt, 3, none⟩)) V (by first | (go_simp; done) | (go_simp; rfl)) ?_
    refine hK.out (Bl V8) _ _ (Bl.stays V8) (no_lean (by kernel_rfl)) hV ?_
    clear hK K hV
    (try simp only [Act.put, List.getElem_toArray, List.getElem_cons_zero, List.getElem_cons_succ, List.setIfInBounds_toArray, List.set_cons_zero, List.set_cons_succ])
    refine wpDet_ready (rs := [12]) (by kernel_rfl) (by simp) (AllDet.cons rfl (fun V hV K hK => ?_) AllDet.nil)
    rw [if_pos (by rfl)]
    refine wp_value (.pointer (some ⟨gt, 5, none⟩)) V (by first | (go_simp; done) | (go_simp; rfl)) ?_
    refine hK.out (Bl V8) _ _ (Bl.stays V8) (no_lean (by kernel_rfl)) hV ?_
    clear hK K hV
    (try simp only [Act.put, List.getElem_toArray, List.getElem_cons_zero, List.getElem_cons_succ, List.setIfInBounds_toArray, List.set_cons_zero, List.set_cons_succ])
    refine wpDet_ready (rs := [13]) (by kernel_rfl) (by simp) (AllDet.cons rfl (fun V hV K hK => ?_) AllDet.nil)
    rw [if_pos (by rfl)]
    have hAV := hA88.below (Bl.out' hV)
    refine wp_store_slice _ _ _ rfl gt 5 p8 (n + 1) c8 _ rfl rfl sizeSlV (hAV.cell 5) (hAV.free 5) ?_
    have hE : Ex gt V8 (V.setCell ⟨gt, 5, none⟩ (.slice p8 (n + 1) c8)) := (Ex.of_below (Bl.out' hV)).trans ((Ex.refl gt V).setCell 5 _)
    have hAs := heap_setCell_same V gt 5 _ _ (.slice p8 (n + 1) c8) hAV
    refine hK.out (fun W => Ex gt V8 W ∧ At 81 W gt #[.pointer (some ⟨g, 0, none⟩), .int .i64 t.file, .int .i64 t.kept, .int .i64 t.r.gen, .slice pb nb cb, .slice p8 (n + 1) c8]) _ _ (fun W W' h hb => ⟨h.1.trans (Ex.of_below hb), h.2.below hb⟩) (no_lean (by kernel_rfl)) ⟨hE, hAs⟩ ?_
    clear hK K hV hAV hE hAs
    (try simp only [Act.put, List.getElem_toArray, List.getElem_cons_zero, List.getElem_cons_succ, List.setIfInBounds_toArray, List.set_cons_zero, List.set_cons_succ])
    refine wpDet_done (by kernel_rfl) (fun W9 hW9 => ?_) _
    obtain ⟨hE9, hA9⟩ := hW9
    obtain ⟨hD8, hTO8, _, hc8⟩ := hP
    have hot : farO own1 W2.heap.size V8.heap.size gt = farM := (farO_low hT2.blk.lt).trans hT2.fg.1
    have hD9 := hD8.exF ha hE9 hot hT.fg.2
    have hTO9 := hTO8.ch (Ch.of_ex hE9) (fun k _ hk => hk) (fun _ _ e => e)
    have hT9 := hTO9.tb (by
      show At 81 W9 gt #[.pointer (some ⟨g, 0, none⟩), .int .i64 t.file, .int .i64 t.kept, .int .i64 t.r.gen, .slice pb nb cb, .slice p8 (t.r.recs ++ [xs]).length c8]
      rw [List.length_append, ← HNn.out]
      exact hA9) ⟨hot, hT.fg.2⟩
    have hcF : Ch (fun k => k = g ∨ k = gt ∨ own k = mark a t.file ∨ ∃ x, pr = some x ∧ 0 < cr ∧ k = x.block) w0 W9 := ((hc2.mono (T := fun k => k = g ∨ k = gt ∨ own k = mark a t.file ∨ ∃ x, pr = some x ∧ 0 < cr ∧ k = x.block) (fun k _ e => e.elim Or.inl fun e => Or.inr (Or.inr (Or.inl e)))).then hc8 (fun k _ e => Or.inr (Or.inr (Or.inr e)))).then (Ch.of_ex hE9) (fun k _ e => Or.inr (Or.inl e))
    have hoF : ∀ k, k < w0.heap.size → farO own1 W2.heap.size V8.heap.size k = own k := fun k hk => (farO_low (Nat.lt_of_lt_of_le hk hc2.size)).trans (hoo k hk)
    clear hS2w hS2 hi1 hy0 hy1 hy2 HOv
    go_wp2_with fail
    go_ret
    exact ⟨rfl, _, d1, hD9, hoF, hcF, Or.inl ⟨rfl, p8, c8, p7, c7, hT9, hTO9⟩⟩

  · have hczn : (cz != 0) = true := by simpa using hcz
    have HR : Hid (PtPost B own a g gt t Bv pb nb cb pr cr vs xs na mz cz w0 W2) :=
      ⟨own1, d1, hD2, hoo, hc2.mono (fun k _ e => e.elim Or.inl (fun e => Or.inr (Or.inr (Or.inl e)))), Or.inr ⟨hcz, hT2, hTO2⟩⟩
    clear hT2 hD2 hTO2 hpa2 hc2 h hT hTO hS1w hW2 hbW h1 hT1 hTO1 hpa1 hcc hS0w hS0 hoo
    go_wp2_with fail
    go_ret
    exact ⟨rfl, HR.out⟩

set_option maxRecDepth 20000 in
theorem TPut_long (w : World) (gt g : Nat) (h0 : w.cell? ⟨gt, 0, none⟩ = some (.pointer (some ⟨g, 0, none⟩))) (pa : Option Addr) (na ca : Nat) (hna : 8192 < na) :
    Calls Tryz.prog 21 #[.pointer (some ⟨gt, 0, none⟩), .slice pa na ca] w fun e w' => e = .returned (.int .i64 4) ∧ Below w.heap.size w w' := by
  have hM := tmade_yes w gt g h0
  have hS := seal_long pa na ca w hna
  clear h0 hna
  go_enter Tryz.func21, Tryz.ntmps21
  go_wp2_with fail
  refine hM.mono ?_
  rintro e w0 ⟨rfl, hw0⟩
  subst hw0
  clear hM
  go_wp2_with fail
  refine hS.mono ?_
  rintro e w1 ⟨rfl, hw1⟩
  subst hw1
  clear hS
  go_wp2_with fail
  go_ret
  exact ⟨rfl, Below.refl _ _⟩

/-- What Sync leaves: the disk mz, and the tape as it was or with all its records kept. -/
def SyPost (B : Nat) (own : Nat → Nat) (a g gt : Nat) (t : TP) (pb : Option Addr) (nb cb : Nat) (pr : Option Addr) (cr : Nat) (vs : List Value) (mz : PD) (cz : Int) (w w' : World) : Prop :=
  ∃ own2 d2, DA w' B own2 a g d2 mz ∧ (∀ k, k < w.heap.size → own2 k = own k) ∧ Ch (fun k => k = g ∨ k = gt ∨ own k = mark a t.file) w w' ∧ ((cz = 0 ∧ TB w' own2 g gt ⟨t.file, t.r.recs.length, t.r⟩ pb nb cb pr cr vs) ∨ (cz ≠ 0 ∧ TB w' own2 g gt t pb nb cb pr cr vs))

set_option maxRecDepth 20000 in
set_option maxHeartbeats 2000000 in
theorem TSync_any (w : World) (B : Nat) (own : Nat → Nat) (a g : Nat) (d : Dk) (m : PD) (ha : a ≤ 100) (h : DA w B own a g d m) (s : Nat) (hm : Fit m s) (hs : s ≤ 274877906944) (gt : Nat) (t : TP) (pb : Option Addr) (nb cb : Nat) (pr : Option Addr) (cr : Nat) (vs : List Value) (hT : TB w own g gt t pb nb cb pr cr vs) (hfile : t.file ≤ 1) :
    Calls Tryz.prog 12 #[.pointer (some ⟨gt, 0, none⟩)] w fun e w' => e = .returned (.int .i64 (goneE (m.gone 1))) ∧ SyPost B own a g gt t pb nb cb pr cr vs (m.syncAt t.file) (goneE (m.gone 1)) w w' := by
  have hi8 : t.file < 8 := by omega
  obtain ⟨cz, HCZ⟩ : ∃ z, Hid (z = goneE (m.gone 1)) := ⟨_, rfl⟩
  obtain ⟨mz, HMZ⟩ : ∃ z, Hid (z = m.syncAt t.file) := ⟨_, rfl⟩
  rw [← HCZ.out, ← HMZ.out]
  have hM := tmade_yes w gt g (hT.blk.cell 0)
  go_enter Tryz.func12, Tryz.ntmps12
  go_wp2_with fail
  refine hM.mono ?_
  rintro e w0 ⟨rfl, hw0⟩
  subst hw0
  clear hM
  have hS0w : ∀ W, Bl w0 W → (W.cell? ⟨gt, 0, none⟩ = some (.pointer (some ⟨g, 0, none⟩)) ∧ W.cell? ⟨gt, 1, none⟩ = some (.int .i64 t.file)) := fun W hW => ⟨cell_below (Bl.out' hW) (hT.blk.cell 0), cell_below (Bl.out' hW) (hT.blk.cell 1)⟩
  have hS0 : Bl w0 w0.drew := (Below.refl _ _).drew
  go_wp2_with fail
  refine wp_region_det [0, 1, 2, 3, 4, 5, 6, 7] (fun W => W.cell? ⟨gt, 0, none⟩ = some (.pointer (some ⟨g, 0, none⟩)) ∧ W.cell? ⟨gt, 1, none⟩ = some (.int .i64 t.file)) (Bl w0) (by kernel_rfl) hS0 ?_
  refine wpDet_take ?vA0 (Bl.stays w0) hS0w (i := 0) rfl (by kernel_rfl) (by kernel_rfl) (by kernel_rfl) (by kernel_rfl) (fun _ _ _ h => h) (Gives.value (by rfl) ?yA0) ?rA0
  case yA0 => (intro w' hSw; (try dsimp only at hSw); go_simp; try with_reducible rfl)
  (try simp only [Act.put, List.getElem_toArray, List.getElem_cons_zero, List.getElem_cons_succ, List.setIfInBounds_toArray, List.set_cons_zero, List.set_cons_succ])
  refine wpDet_take ?vA1 (Bl.stays w0) hS0w (i := 1) rfl (by kernel_rfl) (by kernel_rfl) (by kernel_rfl) (by kernel_rfl) (fun _ _ _ h => h) (Gives.value (by rfl) ?yA1) ?rA1
  case yA1 => (intro w' hSw; (try dsimp only at hSw); go_simp; try with_reducible rfl)
  (try simp only [Act.put, List.getElem_toArray, List.getElem_cons_zero, List.getElem_cons_succ, List.setIfInBounds_toArray, List.set_cons_zero, List.set_cons_succ])
  refine wpDet_take ?vA2 (Bl.stays w0) hS0w (i := 2) rfl (by kernel_rfl) (by kernel_rfl) (by kernel_rfl) (by kernel_rfl) (fun _ _ _ h => h) (Gives.value (by rfl) ?yA2) ?rA2
  case yA2 => (intro w' hSw; (try dsimp only at hSw); go_simp; try with_reducible rfl)
  (try simp only [Act.put, List.getElem_toArray, List.getElem_cons_zero, List.getElem_cons_succ, List.setIfInBounds_toArray, List.set_cons_zero, List.set_cons_succ])
  refine wpDet_take ?vA3 (Bl.stays w0) hS0w (i := 3) rfl (by kernel_rfl) (by kernel_rfl) (by kernel_rfl) (by kernel_rfl) (fun _ _ _ h => h) (Gives.value (by rfl) ?yA3) ?rA3
  case yA3 => (intro w' hSw; have hz0 := hSw.1; (try dsimp only at hSw); go_simp; try with_reducible rfl)
  (try simp only [Act.put, List.getElem_toArray, List.getElem_cons_zero, List.getElem_cons_succ, List.setIfInBounds_toArray, List.set_cons_zero, List.set_cons_succ])
  refine wpDet_take ?vA4 (Bl.stays w0) hS0w (i := 4) rfl (by kernel_rfl) (by kernel_rfl) (by kernel_rfl) (by kernel_rfl) (fun _ _ _ h => h) (Gives.value (by rfl) ?yA4) ?rA4
  case yA4 => (intro w' hSw; (try dsimp only at hSw); go_simp; try with_reducible rfl)
  (try simp only [Act.put, List.getElem_toArray, List.getElem_cons_zero, List.getElem_cons_succ, List.setIfInBounds_toArray, List.set_cons_zero, List.set_cons_succ])
  refine wpDet_take ?vA5 (Bl.stays w0) hS0w (i := 5) rfl (by kernel_rfl) (by kernel_rfl) (by kernel_rfl) (by kernel_rfl) (fun _ _ _ h => h) (Gives.value (by rfl) ?yA5) ?rA5
  case yA5 => (intro w' hSw; (try dsimp only at hSw); go_simp; try with_reducible rfl)
  (try simp only [Act.put, List.getElem_toArray, List.getElem_cons_zero, List.getElem_cons_succ, List.setIfInBounds_toArray, List.set_cons_zero, List.set_cons_succ])
  refine wpDet_take ?vA6 (Bl.stays w0) hS0w (i := 6) rfl (by kernel_rfl) (by kernel_rfl) (by kernel_rfl) (by kernel_rfl) (fun _ _ _ h => h) (Gives.value (by rfl) ?yA6) ?rA6
  case yA6 => (intro w' hSw; (try dsimp only at hSw); go_simp; try with_reducible rfl)
  (try simp only [Act.put, List.getElem_toArray, List.getElem_cons_zero, List.getElem_cons_succ, List.setIfInBounds_toArray, List.set_cons_zero, List.set_cons_succ])
  refine wpDet_take ?vA7 (Bl.stays w0) hS0w (i := 7) rfl (by kernel_rfl) (by kernel_rfl) (by kernel_rfl) (by kernel_rfl) (fun _ _ _ h => h) (Gives.value (by rfl) ?yA7) ?rA7
  case yA7 => (intro w' hSw; have hz0 := hSw.2; (try dsimp only at hSw); go_simp; try with_reducible rfl)
  (try simp only [Act.put, List.getElem_toArray, List.getElem_cons_zero, List.getElem_cons_succ, List.setIfInBounds_toArray, List.set_cons_zero, List.set_cons_succ])
  refine wpDet_ready (rs := [8]) (by kernel_rfl) (by simp) (AllDet.cons rfl (fun V hV K hK => ?_) AllDet.nil)
  rw [if_pos (by rfl)]
  have hbV := Bl.out' hV
  have hS : Calls Tryz.prog 36 #[.pointer (some ⟨g, 0, none⟩), .int .i64 t.file] V fun e w' => e = .returned (.int .i64 cz) ∧ ∃ own2 d2, DA w' B own2 a g d2 mz ∧ (∀ k, k < V.heap.size → own2 k = own k) ∧ Ch (fun k => k = g ∨ own k = mark a t.file) V w' := by
    rw [HCZ.out, HMZ.out]
    exact Sync_ok V B own a g d m (h.below hbV) hm.ok.r0 hm.up (hm.ok.few (by omega)) t.file hi8
  refine wp_enterX 36 #[.pointer (some ⟨g, 0, none⟩), .int .i64 t.file] (by first | (go_simp; done) | (go_simp; rfl)) (fun v V' => v = .int .i64 cz ∧ ∃ own1 d1, DA V' B own1 a g d1 mz ∧ (∀ k, k < V.heap.size → own1 k = own k) ∧ Ch (fun k => k = g ∨ own k = mark a t.file) V V') (hS.mono fun e V' ⟨h1, h2⟩ => ⟨_, h1, rfl, h2⟩) ?_
  rintro v V1 ⟨rfl, own1, d1, h1, ho1, hc1⟩
  have hT1 := TB.ch ha hi8 (hT.below hbV) hc1 ho1
  have hcc := (Ch.of_below hbV (fun k => k = g ∨ own k = mark a t.file)).trans hc1
  have hoo : ∀ k, k < w0.heap.size → own1 k = own k := fun k hk => ho1 k (Nat.lt_of_lt_of_le hk hbV.size)
  have c01 := hT1.blk.cell 0
  have c11 := hT1.blk.cell 1
  have hS1w : ∀ W, Bl V1 W → (W.cell? ⟨gt, 0, none⟩ = some (.pointer (some ⟨g, 0, none⟩)) ∧ W.cell? ⟨gt, 1, none⟩ = some (.int .i64 t.file)) := fun W hW => ⟨cell_below (Bl.out' hW) c01, cell_below (Bl.out' hW) c11⟩
  refine hK.out (Bl V1) _ _ (Bl.stays V1) (fun _ W h => hS1w W h) (Below.refl _ _) ?_
  clear hK K hV hS ho1 hc1 hbV c01 c11
  (try simp only [Act.put, List.getElem_toArray, List.getElem_cons_zero, List.getElem_cons_succ, List.setIfInBounds_toArray, List.set_cons_zero, List.set_cons_succ])
  refine wpDet_ready (rs := [9]) (by kernel_rfl) (by simp) (AllDet.cons rfl (fun V hV K hK => ?_) AllDet.nil)
  rw [if_pos (by rfl)]
  refine wp_value (.int .i64 cz) V (by first | (go_simp; done) | (go_simp; rfl)) ?_
  refine hK.out (Bl V1) _ _ (Bl.stays V1) (fun _ W h => hS1w W h) hV ?_
  clear hK K hV
  (try simp only [Act.put, List.getElem_toArray, List.getElem_cons_zero, List.getElem_cons_succ, List.setIfInBounds_toArray, List.set_cons_zero, List.set_cons_succ])
  refine wpDet_done (by kernel_rfl) (fun W2 hW2 => ?_) _
  have hbW := Bl.out' hW2
  have hT2 := hT1.below hbW
  have h2 := h1.below hbW
  have hc2 := hcc.trans (Ch.of_below hbW _)
  have c5 := hT2.blk.cell 5
  have c2 := hT2.blk.cell 2
  have f2 := hT2.blk.free 2
  have hot : own1 gt = farM := hT2.fg.1
  clear hS1w hW2 hbW h1 hT1 hcc hS0w hS0
  by_cases hcz : cz = 0
  · clear HCZ
    subst hcz
    go_wp2_with fail
    go_ret
    have hEx : Ex gt W2 (W2.setCell ⟨gt, 2, none⟩ (.int .i64 t.r.recs.length)) := (Ex.refl gt W2).setCell 2 _
    have hCx := Ch.of_ex hEx
    refine ⟨rfl, own1, d1, h2.exF ha hEx hot hT.fg.2, hoo, ?_, Or.inl ⟨rfl, ?_⟩⟩
    rotate_left
    · exact TB.put hT2 hEx t.file t.r.recs.length (heap_setCell_same W2 gt 2 _ _ _ hT2.blk)
    · exact (hc2.mono (T := fun k => k = g ∨ k = gt ∨ own k = mark a t.file) (fun k _ e => e.elim Or.inl fun e => Or.inr (Or.inr e))).then hCx (fun k _ e => Or.inr (Or.inl e))

  · have hczn : (cz != 0) = true := by simpa using hcz
    have HR : Hid (SyPost B own a g gt t pb nb cb pr cr vs mz cz w0 W2) := ⟨own1, d1, h2, hoo, hc2.mono (fun k _ e => e.elim Or.inl (fun e => Or.inr (Or.inr e))), Or.inr ⟨hcz, hT2⟩⟩
    clear h2 hoo hc2 hT2 c5 c2 f2 hot
    go_wp2_with fail
    go_ret
    exact ⟨rfl, HR.out⟩

end Go.Proofs.YtpjhadaiodnnaaaGreat.M
end

section
namespace Go.Proofs.YtpjhadaiodnnaaaGreat.M
open Go.ChangeShapes Go.WideShapes Go.ChangeAt Go.RowKit
set_option linter.unusedSimpArgs false

/-- Put: what is answered, the disk and the tape then. -/
def ptT (m : PD) (t : TP) (xs : List Int) : Int × PD × TP :=
  if 8192 < xs.length then (4, m, t) else ((ptM m t.file (sealL xs)).2, (ptM m t.file (sealL xs)).1, if (ptM m t.file (sealL xs)).2 = 0 then ⟨t.file, t.kept, ⟨t.r.gen, t.r.base, t.r.recs ++ [xs]⟩⟩ else t)

/-- Sync. -/
def syT (m : PD) (t : TP) : Int × PD × TP := (goneE (m.gone 1), m.syncAt t.file, if goneE (m.gone 1) = 0 then ⟨t.file, t.r.recs.length, t.r⟩ else t)

/-- Save. -/
def svT (m : PD) (t : TP) (base : List Int) (recs : List (List Int)) : Int × PD × TP :=
  if 1099511627776 ≤ t.r.gen then (5, m, t) else if fitsR base.length recs = false then (4, m, t) else
    ((wrM m (1 - t.file) (sealR ⟨t.r.gen + 1, base, recs⟩)).2, (wrM m (1 - t.file) (sealR ⟨t.r.gen + 1, base, recs⟩)).1, if (wrM m (1 - t.file) (sealR ⟨t.r.gen + 1, base, recs⟩)).2 = 0 then ⟨1 - t.file, recs.length, ⟨t.r.gen + 1, base, recs⟩⟩ else t)

theorem TSo.blk {w : World} {L a g gt : Nat} {m : PD} {t : TP} (h : TSo w L a g gt m t) : w.cell? ⟨gt, 0, none⟩ = some (.pointer (some ⟨g, 0, none⟩)) ∧ w.cell? ⟨gt, 3, none⟩ = some (.int .i64 t.r.gen) := by
  obtain ⟨own, d, pb, nb, cb, pr, cr, vs, Bv, h1, h2, h3, h4, h5⟩ := h
  exact ⟨h2.blk.cell 0, h2.blk.cell 3⟩

theorem TSo.lw {w : World} {L a g gt : Nat} {m : PD} {t : TP} (h : TSo w L a g gt m t) : L ≤ w.heap.size := by
  obtain ⟨own, d, pb, nb, cb, pr, cr, vs, Bv, h1, h2, h3, h4, h5⟩ := h
  exact h1.lw

/-- The same, its marks told. -/
def TSx (w : World) (L a g gt : Nat) (own : Nat → Nat) (m : PD) (t : TP) : Prop := ∃ d pb nb cb pr cr vs Bv, DS w L a g own d m ∧ TB w own g gt t pb nb cb pr cr vs ∧ L ≤ gt ∧ TO w own Bv g gt t pb nb cb pr cr vs ∧ Bv ≤ w.heap.size

theorem TSx.o {w : World} {L a g gt : Nat} {own : Nat → Nat} {m : PD} {t : TP} (h : TSx w L a g gt own m t) : TSo w L a g gt m t := ⟨own, h⟩
theorem TSo.x {w : World} {L a g gt : Nat} {m : PD} {t : TP} (h : TSo w L a g gt m t) : ∃ own, TSx w L a g gt own m t := h

theorem TSx.below {w w' : World} {L a g gt : Nat} {own : Nat → Nat} {m : PD} {t : TP} (h : TSx w L a g gt own m t) (hb : Below w.heap.size w w') : TSx w' L a g gt own m t := by
  obtain ⟨d, pb, nb, cb, pr, cr, vs, Bv, h1, h2, h3, h4, h5⟩ := h
  exact ⟨d, pb, nb, cb, pr, cr, vs, Bv, h1.below hb, h2.below hb, h3, h4.below hb, Nat.le_trans h5 hb.size⟩

/-- What is no block of a disk, a tape or what they made. -/
def Fgn (own : Nat → Nat) (g k : Nat) : Prop := own k = 0 ∧ k ≠ g

theorem TSx.new {w : World} {L a g gt : Nat} {own : Nat → Nat} {m : PD} {t : TP} (h : TSx w L a g gt own m t) {k : Nat} (hk : w.heap.size ≤ k) : Fgn own g k := by
  obtain ⟨d, pb, nb, cb, pr, cr, vs, Bv, h1, h2, h3, h4, h5⟩ := h
  exact ⟨h1.da.fr k hk, by have := h1.da.dc.lt; omega⟩

theorem TSx.old {w : World} {L a g gt : Nat} {own : Nat → Nat} {m : PD} {t : TP} (h : TSx w L a g gt own m t) {k : Nat} (hk : k < L) : Fgn own g k := by
  obtain ⟨d, pb, nb, cb, pr, cr, vs, Bv, h1, h2, h3, h4, h5⟩ := h
  exact ⟨h1.low k hk, by have := h1.lg; omega⟩

theorem Fgn.to {own own2 : Nat → Nat} {g k n : Nat} (h : Fgn own g k) (hk : k < n) (ho : ∀ k, k < n → own2 k = own k) : Fgn own2 g k := ⟨(ho k hk).trans h.1, h.2⟩

theorem mine_no {own : Nat → Nat} {a g gt i k : Nat} (hf : Fre own g gt) (e : k = g ∨ k = gt ∨ own k = mark a i) : ¬ Fgn own g k := fun h => by
  rcases e with e | e | e
  · exact h.2 e
  · rw [e] at h; have h1 := hf.1; rw [h.1] at h1; cases h1
  · rw [h.1] at e; unfold mark at e; omega

/-- Put of a tape. -/
theorem Put_S (w0 w : World) (L a g gt : Nat) (own : Nat → Nat) (m : PD) (t : TP) (s : Nat) (ha : a ≤ 100) (hT : TSx w0 L a g gt own m t) (hbw : Below w0.heap.size w0 w) (hm : Fit m s) (hs : s ≤ 274877906944) (hfile : t.file ≤ 1) (hcount : t.r.recs.length < 1000000)
    (pa : Option Addr) (na ca : Nat) (xs : List Int) (hpa : Rd .u8 w pa na ca xs) (hby : By xs) (hda : ∀ x, pa = some x → 0 < na → Fgn own g x.block) :
    Calls Tryz.prog 21 #[.pointer (some ⟨gt, 0, none⟩), .slice pa na ca] w fun e w' => e = .returned (.int .i64 (ptT m t xs).1) ∧ ∃ own2, TSx w' L a g gt own2 (ptT m t xs).2.1 (ptT m t xs).2.2 ∧ (∀ k, k < w.heap.size → own2 k = own k) ∧ Ch (fun k => ¬ Fgn own g k) w w' := by
  have hl := hpa.len
  have hT1 := hT.below hbw
  by_cases hna : 8192 < na
  · have e1 : ptT m t xs = (4, m, t) := by unfold ptT; rw [if_pos (by omega)]
    rw [e1]
    refine (TPut_long w gt g hT1.o.blk.1 pa na ca hna).mono ?_
    rintro e w' ⟨rfl, hb⟩
    exact ⟨rfl, own, hT1.below hb, fun _ _ => rfl, Ch.of_below hb _⟩
  · have e1 : ptT m t xs = ((ptM m t.file (sealL xs)).2, (ptM m t.file (sealL xs)).1, if (ptM m t.file (sealL xs)).2 = 0 then ⟨t.file, t.kept, ⟨t.r.gen, t.r.base, t.r.recs ++ [xs]⟩⟩ else t) := by unfold ptT; rw [if_neg (by omega)]
    rw [e1]
    obtain ⟨d, pb, nb, cb, pr, cr, vs, Bv, hD0, hB0, hgt, hO0, hBv0⟩ := hT
    have hD := hD0.below hbw
    have hgl : g < w0.heap.size := hD0.da.dc.lt
    refine (TPut_any w L own a g d m ha hD.da s hm hs hD.lw gt t pb nb cb pr cr vs (hB0.below hbw) hfile Bv (Nat.le_trans hBv0 hbw.size) (hO0.below hbw) hcount pa na ca xs hpa hby (by omega) (fun x e h0 => ?_)).mono ?_
    · have h1 := hda x e h0
      exact ⟨fun e2 => by rw [h1.1] at e2; unfold mark at e2; omega, h1.2⟩
    · rintro e w' ⟨rfl, own2, d2, h1, h4, h5, hh⟩
      have hBel : Ch (fun k => ¬ Fgn own g k) w w' := h5.mono fun k hk e => by
        rcases e with e | e | e | ⟨x, e, hc, ex⟩
        · exact mine_no (i := 0) (a := 0) hB0.fg (Or.inl e)
        · exact mine_no (i := 0) (a := 0) hB0.fg (Or.inr (Or.inl e))
        · exact mine_no hB0.fg (Or.inr (Or.inr e))
        · have h6 := (hO0.fv x e hc).1.1
          rw [← ex] at h6
          intro h7
          rw [h7.1] at h6
          cases h6
      have hBv : Bv ≤ w'.heap.size := Nat.le_trans (Nat.le_trans hBv0 hbw.size) h5.size
      rcases hh with ⟨hz, pr2, cr2, q, c, h2, h3⟩ | ⟨hz, h2, h3⟩
      · rw [if_pos hz]
        exact ⟨rfl, own2, ⟨d2, pb, nb, cb, pr2, cr2, vs ++ [.slice q na c], Bv, hD.mv h1 h5.size h4, h2, hgt, h3, hBv⟩, h4, hBel⟩
      · rw [if_neg hz]
        exact ⟨rfl, own2, ⟨d2, pb, nb, cb, pr, cr, vs, Bv, hD.mv h1 h5.size h4, h2, hgt, h3, hBv⟩, h4, hBel⟩

/-- Sync of a tape. -/
theorem Sync_S (w : World) (L a g gt : Nat) (own : Nat → Nat) (m : PD) (t : TP) (s : Nat) (ha : a ≤ 100) (hT : TSx w L a g gt own m t) (hm : Fit m s) (hs : s ≤ 274877906944) (hfile : t.file ≤ 1) :
    Calls Tryz.prog 12 #[.pointer (some ⟨gt, 0, none⟩)] w fun e w' => e = .returned (.int .i64 (syT m t).1) ∧ ∃ own2, TSx w' L a g gt own2 (syT m t).2.1 (syT m t).2.2 ∧ (∀ k, k < w.heap.size → own2 k = own k) ∧ Ch (fun k => ¬ Fgn own g k) w w' := by
  obtain ⟨d, pb, nb, cb, pr, cr, vs, Bv, hD, hB, hgt, hO, hBv⟩ := hT
  refine (TSync_any w L own a g d m ha hD.da s hm hs gt t pb nb cb pr cr vs hB hfile).mono ?_
  rintro e w' ⟨rfl, own2, d2, h1, h3, h4, hh⟩
  have hO2 : TO w' own2 Bv g gt t pb nb cb pr cr vs := hO.ch h4 (fun k hf hn e => by
    rcases e with e | e | e
    · exact hf.2 e
    · exact hn e
    · exact far_mark ha (show t.file < 8 by omega) (by rw [← e, hf.1])) (fun k hk e => (h3 k hk).trans e)
  have hBel : Ch (fun k => ¬ Fgn own g k) w w' := h4.mono fun k _ e => mine_no hB.fg e
  unfold syT
  rcases hh with ⟨hz, h2⟩ | ⟨hz, h2⟩
  · rw [if_pos hz]
    exact ⟨rfl, own2, ⟨d2, pb, nb, cb, pr, cr, vs, Bv, hD.mv h1 h4.size h3, h2, hgt, ⟨hO2.bas, hO2.fb, hO2.rcs, hO2.fv, hO2.sls, hO2.fs⟩, Nat.le_trans hBv h4.size⟩, h3, hBel⟩
  · rw [if_neg hz]
    exact ⟨rfl, own2, ⟨d2, pb, nb, cb, pr, cr, vs, Bv, hD.mv h1 h4.size h3, h2, hgt, hO2, Nat.le_trans hBv h4.size⟩, h3, hBel⟩

theorem fits_yes {n : Nat} {recs : List (List Int)} (h : ¬ fitsR n recs = false) : n ≤ 8176 ∧ ∀ i, i < recs.length → (recs.getD i []).length ≤ 8192 := by
  have h1 : fitsR n recs = true := by
    cases h2 : fitsR n recs with
    | true => rfl
    | false => exact absurd h2 h
  unfold fitsR at h1
  rw [Bool.and_eq_true] at h1
  exact ⟨of_decide_eq_true h1.1, shortV_get h1.2⟩

/-- Save of a tape. -/
theorem Save_T (w : World) (L a g gt : Nat) (own : Nat → Nat) (m : PD) (t : TP) (s : Nat) (ha : a ≤ 100) (hT : TSx w L a g gt own m t) (hm : Fit m s) (hs : s ≤ 274877906944) (hfile : t.file ≤ 1) (hgen : 0 ≤ t.r.gen)
    (pa : Option Addr) (na ca : Nat) (base : List Int) (hpa : Rd .u8 w pa na ca base) (hby : By base) (pl : Option Addr) (nl cl : Nat) (us : List Value) (recs : List (List Int)) (hpl : RdV w pl nl cl us) (hus : Sls w us recs) (hnl : nl = recs.length) (hfew : nl ≤ 1000000) (hrec : ∀ i, i < recs.length → By (recs.getD i [])) :
    Calls Tryz.prog 14 #[.pointer (some ⟨gt, 0, none⟩), .slice pa na ca, .slice pl nl cl] w fun e w' => e = .returned (.int .i64 (svT m t base recs).1) ∧ ∃ own2, TSx w' L a g gt own2 (svT m t base recs).2.1 (svT m t base recs).2.2 ∧ (∀ k, k < w.heap.size → own2 k = own k) ∧ Ch (fun k => ¬ Fgn own g k) w w' := by
  have hl := hpa.len
  by_cases h40 : 1099511627776 ≤ t.r.gen
  · have e1 : svT m t base recs = (5, m, t) := by unfold svT; rw [if_pos h40]
    rw [e1]
    refine (Save_range w gt g t.r.gen hT.o.blk.1 hT.o.blk.2 h40 pa na ca pl nl cl).mono ?_
    rintro e w' ⟨rfl, rfl⟩
    exact ⟨rfl, own, hT, fun _ _ => rfl, Ch.refl _ _⟩
  · by_cases hfit : fitsR base.length recs = false
    · have e1 : svT m t base recs = (4, m, t) := by unfold svT; rw [if_neg h40, if_pos hfit]
      rw [e1]
      refine (Save_long w gt g t.r.gen hT.o.blk.1 hT.o.blk.2 (by omega) pa na ca pl nl cl us recs hpl hus hnl hfew (by rw [← hl]; exact hfit)).mono ?_
      rintro e w' ⟨rfl, hb⟩
      exact ⟨rfl, own, hT.below hb, fun _ _ => rfl, Ch.of_below hb _⟩
    · have e1 : svT m t base recs = ((wrM m (1 - t.file) (sealR ⟨t.r.gen + 1, base, recs⟩)).2, (wrM m (1 - t.file) (sealR ⟨t.r.gen + 1, base, recs⟩)).1, if (wrM m (1 - t.file) (sealR ⟨t.r.gen + 1, base, recs⟩)).2 = 0 then ⟨1 - t.file, recs.length, ⟨t.r.gen + 1, base, recs⟩⟩ else t) := by unfold svT; rw [if_neg h40, if_neg hfit]
      rw [e1]
      obtain ⟨hf1, hf2⟩ := fits_yes hfit
      obtain ⟨d, pb, nb, cb, pr, cr, vs, Bv, hD, hB, hgt, hO, hBv⟩ := hT
      refine (Save_any w L own a g d m ha hD.da s hm hs hD.lw gt t pb nb cb pr cr vs hB hfile ⟨hgen, by omega⟩ pa na ca base hpa hby (by omega) pl nl cl us recs hpl hus hnl hfew (fun i hi => ⟨hrec i hi, hf2 i hi⟩)).mono ?_
      rintro e w' ⟨rfl, own2, d2, h1, h3, h4, hh⟩
      have hBel : Ch (fun k => ¬ Fgn own g k) w w' := h4.mono fun k _ e => mine_no hB.fg e
      rcases hh with ⟨hz, qb, mb, db, qr, dr, us2, h2, h5⟩ | ⟨hz, h2⟩
      · rw [if_pos hz, ← hnl]
        exact ⟨rfl, own2, ⟨d2, qb, mb, db, qr, dr, us2, w.heap.size, hD.mv h1 h4.size h3, h2, hgt, h5, h4.size⟩, h3, hBel⟩
      · rw [if_neg hz]
        have hO2 : TO w' own2 Bv g gt t pb nb cb pr cr vs := hO.ch h4 (fun k hf hn e => by
          rcases e with e | e | e
          · exact hf.2 e
          · exact hn e
          · exact far_mark ha (show 1 - t.file < 8 by omega) (by rw [← e, hf.1])) (fun k hk e => (h3 k hk).trans e)
        exact ⟨rfl, own2, ⟨d2, pb, nb, cb, pr, cr, vs, Bv, hD.mv h1 h4.size h3, h2, hgt, hO2, Nat.le_trans hBv h4.size⟩, h3, hBel⟩

theorem Ch.lowB {w w' : World} {L a g gt : Nat} {own : Nat → Nat} {m : PD} {t : TP} (h : Ch (fun k => ¬ Fgn own g k) w w') (hT : TSx w L a g gt own m t) : Below L w w' := h.lowL hT.o.lw fun _ hk e => e (hT.old hk)

end Go.Proofs.YtpjhadaiodnnaaaGreat.M
end

section
namespace Go.Proofs.YtpjhadaiodnnaaaGreat.M
open Go.ChangeShapes Go.WideShapes Go.ChangeAt Go.RowKit
set_option linter.unusedSimpArgs false

theorem allR_few5 (xs : List Int) (hx : By xs) : 5 * (allR xs).1.length ≤ xs.length := by
  have key : ∀ f (ys : List Int), By ys → 5 * (allF f ys).1.length ≤ ys.length := by
    intro f
    induction f with
    | zero => intro ys _; exact Nat.zero_le _
    | succ f ih =>
      intro ys hy
      unfold allF
      by_cases h : (openR ys).2.2 = 0
      · rw [if_pos h]
        obtain ⟨h1, h2, _, _⟩ := openR_room hy h
        have := ih (ys.drop (openR ys).2.1) (fun x hx => hy x (List.mem_of_mem_drop hx))
        rw [List.length_drop] at this
        show 5 * ((openR ys).1 :: (allF f (ys.drop (openR ys).2.1)).1).length ≤ _
        rw [List.length_cons]
        omega
      · rw [if_neg h]
        exact Nat.zero_le _
  exact key _ xs hx

/-- What was loaded may be a reel, but for its generation. -/
structure PR.fit (r : PR) : Prop where
  gen : 0 ≤ r.gen
  base : r.base.length ≤ 8176 ∧ By r.base
  recs : ∀ i, i < r.recs.length → By (r.recs.getD i []) ∧ (r.recs.getD i []).length ≤ 8192

theorem PR.fit.z0 : PR.fit .z0 := ⟨Int.le_refl _, ⟨Nat.zero_le _, By.nil⟩, fun _ h => absurd h (Nat.not_lt_zero _)⟩

/-- The reel that counts, in plain words: which file, the reel, and whether it is whole. -/
def cnt (m : PD) : Nat × PR × Bool := scT (fun i => (m.f i).told) 2

/-- Open: what is answered, the disk and the tape then. -/
def opM (m : PD) : Int × PD × TP :=
  if (cnt m).2.2 = true then (0, m, ⟨(cnt m).1, (cnt m).2.1.recs.length, (cnt m).2.1⟩) else svT m ⟨(cnt m).1, (cnt m).2.1.recs.length, (cnt m).2.1⟩ (cnt m).2.1.base (cnt m).2.1.recs

theorem Open_S (w : World) (L a g : Nat) (own : Nat → Nat) (m : PD) (s : Nat) (ha : a ≤ 100) (hD : ∃ d, DS w L a g own d m) (hm : Fit m s) (hs : s ≤ 274877906944) (hBy : ∀ i, i < 2 → By (m.f i).told) (hf : (cnt m).1 ≤ 1) (hr : (cnt m).2.1.fit) (hfew : (cnt m).2.1.recs.length ≤ 1000000) :
    Calls Tryz.prog 8 #[.pointer (some ⟨g, 0, none⟩)] w fun e w' => ∃ gt, e = .returned (.tuple #[opT (opM m).1 gt, .int .i64 (opM m).1]) ∧ ∃ own2, TSx w' L a g gt own2 (opM m).2.1 (opM m).2.2 ∧ (∀ k, k < w.heap.size → own2 k = own k) ∧ Ch (fun k => ¬ Fgn own g k) w w' := by
  obtain ⟨d, hS⟩ := hD
  have hgl : g < w.heap.size := hS.da.dc.lt
  have hX : ∀ w1 gt pb nb cb pr cr vs, OI w w1 g gt (cnt m).1 (cnt m).2.1.recs.length (cnt m).2.1 pb nb cb pr cr vs → TSx w1 L a g gt (farO own w.heap.size w1.heap.size) m ⟨(cnt m).1, (cnt m).2.1.recs.length, (cnt m).2.1⟩ := fun w1 gt pb nb cb pr cr vs hI =>
    ⟨d, pb, nb, cb, pr, cr, vs, w.heap.size, hS.marked hI.hb, hI.tb hgl, by have := hI.ge; have := hS.lw; omega, hI.to hgl, hI.hb.size⟩
  have hfw : m.few := hm.ok.few (by omega)
  refine (TOpen_gen w g (fun i => (m.f i).told) (fun wr hb i hi => Read_O wr L own a g d m (hS.da.below hb) hm.ok.r0 hm.up hfw i (by omega)) hBy (fun i hi => Nat.le_trans (hfw.told i (by omega)) (by decide)) (fun c gt w' => c = (svT m ⟨(cnt m).1, (cnt m).2.1.recs.length, (cnt m).2.1⟩ (cnt m).2.1.base (cnt m).2.1.recs).1 ∧ ∃ own2, TSx w' L a g gt own2 (svT m ⟨(cnt m).1, (cnt m).2.1.recs.length, (cnt m).2.1⟩ (cnt m).2.1.base (cnt m).2.1.recs).2.1 (svT m ⟨(cnt m).1, (cnt m).2.1.recs.length, (cnt m).2.1⟩ (cnt m).2.1.base (cnt m).2.1.recs).2.2 ∧ (∀ k, k < w.heap.size → own2 k = own k) ∧ Ch (fun k => ¬ Fgn own g k) w w') (fun c gt W W' h hb => ⟨h.1, by
      obtain ⟨own2, h1, h2, h3⟩ := h.2
      exact ⟨own2, h1.below hb, h2, h3.trans (Ch.of_below hb _)⟩⟩) ?_).mono ?_
  · intro hb w1 gt pb nb cb pr cr vs hI
    refine (Save_T w1 L a g gt _ m ⟨(cnt m).1, (cnt m).2.1.recs.length, (cnt m).2.1⟩ s ha (hX _ _ _ _ _ _ _ _ hI) hm hs hf hr.gen pb nb cb _ hI.bas.rd hr.base.2 pr _ cr vs _ hI.rcs.rd hI.sls.sls rfl hfew (fun i hi => (hr.recs i hi).1)).mono ?_
    rintro e w' ⟨rfl, own2, h1, h2, h3⟩
    refine ⟨_, rfl, rfl, own2, h1, fun k hk => (h2 k (Nat.lt_of_lt_of_le hk hI.hb.size)).trans (farO_low hk), (Ch.of_below hI.hb (fun k => ¬ Fgn own g k)).then h3 (fun k hk e => fun h4 => e ⟨(farO_low hk).trans h4.1, h4.2⟩)⟩
  · rintro e w' (⟨hb, gt, pb, nb, cb, pr, cr, vs, rfl, hI⟩ | ⟨hb, c, gt, rfl, rfl, own2, h1, h2, h3⟩)
    · have e1 : opM m = (0, m, ⟨(cnt m).1, (cnt m).2.1.recs.length, (cnt m).2.1⟩) := by unfold opM; rw [if_pos (show (cnt m).2.2 = true from hb)]
      rw [e1]
      exact ⟨gt, rfl, _, hX _ _ _ _ _ _ _ _ hI, fun k hk => farO_low hk, Ch.of_below hI.hb _⟩
    · have e1 : opM m = svT m ⟨(cnt m).1, (cnt m).2.1.recs.length, (cnt m).2.1⟩ (cnt m).2.1.base (cnt m).2.1.recs := by unfold opM; rw [if_neg (show ¬ (cnt m).2.2 = true by have : (cnt m).2.2 = false := hb; rw [this]; decide)]
      rw [e1]
      exact ⟨gt, rfl, own2, h1, h2, h3⟩

/-- Open where what counts is whole: only new memory is made. -/
theorem Open_whole (w : World) (L a g : Nat) (m : PD) (s : Nat) (hD : DSt w L a g m) (hm : Fit m s) (hs : s ≤ 274877906944) (hBy : ∀ i, i < 2 → By (m.f i).told) (f : Nat) (r : PR) (hc : cnt m = (f, r, true)) :
    Calls Tryz.prog 8 #[.pointer (some ⟨g, 0, none⟩)] w fun e w' => ∃ gt, e = .returned (.tuple #[.pointer (some ⟨gt, 0, none⟩), .int .i64 0]) ∧ TSo w' L a g gt m ⟨f, r.recs.length, r⟩ ∧ Below w.heap.size w w' := by
  obtain ⟨own, d, hS⟩ := hD
  have hgl : g < w.heap.size := hS.da.dc.lt
  have hfw : m.few := hm.ok.few (by omega)
  have hc' : scT (fun i => (m.f i).told) 2 = (f, r, true) := hc
  refine (TOpen_gen w g (fun i => (m.f i).told) (fun wr hb i hi => Read_O wr L own a g d m (hS.da.below hb) hm.ok.r0 hm.up hfw i (by omega)) hBy (fun i hi => Nat.le_trans (hfw.told i (by omega)) (by decide)) (fun _ _ _ => False) (fun _ _ _ _ h _ => h) (fun hb => by rw [hc'] at hb; cases hb)).mono ?_
  rw [hc']
  rintro e w' (⟨hb, gt, pb, nb, cb, pr, cr, vs, rfl, hI⟩ | ⟨hb, _⟩)
  · exact ⟨gt, rfl, ⟨_, d, pb, nb, cb, pr, cr, vs, w.heap.size, hS.marked hI.hb, hI.tb hgl, by have := hI.ge; have := hS.lw; omega, hI.to hgl, hI.hb.size⟩, hI.hb⟩
  · cases hb

end Go.Proofs.YtpjhadaiodnnaaaGreat.M
end

section
namespace Go.Proofs.YtpjhadaiodnnaaaGreat.M
open Go.ChangeShapes Go.WideShapes Go.ChangeAt Go.RowKit

set_option maxRecDepth 20000 in
theorem bclone_own (p : Option Addr) (n c : Nat) (xs : List Int) (w : World) (hr : Rd .u8 w p n c xs) (hn : n ≤ 1099511627776) :
    Calls Tryz.prog 53 #[.slice p n c] w fun e w' => ∃ p' c', e = .returned (.slice p' n c') ∧ OwS .u8 5 w' w.heap.size p' n c' xs ∧ Below w.heap.size w w' := by
  have q22 : ∀ (w : World) (a : Option Addr) (n c n' c' : Nat), (binOp .eql 40 (.slice a n c) (.slice none n' c')).run Tryz.prog w = .ok (.bool a.isNone) w := fun w a n c n' c' => Lib.run_eql_slice_nil w _ _ a n c n' c' Tryz.underlying40
  obtain ⟨i0, hi0, hz0, hz1, hz2⟩ := info_parts infoU8
  cases p with
  | none =>
    have hn0 : n = 0 := by have := hr.cap; have := hr.nil rfl; omega
    subst hn0
    have hc0 := hr.nil rfl
    subst hc0
    obtain rfl : xs = [] := List.length_eq_zero_iff.1 hr.len
    go_enter Tryz.func53, Tryz.ntmps53
    go_wp2_with fail
    go_ret
    exact ⟨none, 0, rfl, OwS.nil _ _ _ _, Below.refl _ _⟩
  | some ad =>
    have hba := (Below.refl w.heap.size w).alloc (Nat.le_refl _) (.cells #[] 5)
    have hra := hr.below' hba
    have ho : OwS .u8 5 (w.alloc (.cells #[] 5)) w.heap.size (some ⟨w.heap.size, 0, none⟩) 0 0 [] := World.ownsRow_made w #[] 0 (Nat.le_refl _) (Nat.zero_le _) rfl
    clear hr
    go_enter Tryz.func53, Tryz.ntmps53
    go_wp2_with (refine wpList_app2 _ rfl (.tmp 5) (.tmp 6) 40 rfl .u8 5 i0 (.int .u8 0) 1 Tryz.underlying40 hi0 hz0 hz1 hz2 rfl w.heap.size _ 0 0 [] rfl ho (some ad) n c xs rfl hra ?c1 ?c2 ?c3 ?_)
    case c1 => omega
    case c2 => unfold maxLen; omega
    case c3 => simp
    intro p' c' w' h1 hg
    have hch := hg.ch (fun k => w.heap.size ≤ k) (fun x e => by cases e; exact Nat.le_refl _)
    have hb2 : Below w.heap.size (w.alloc (.cells #[] 5)) w' := hch.below (by simp) (fun k e => e)
    clear hg hch
    go_wp2_with fail
    go_ret
    exact ⟨p', c', rfl, by simpa using h1, hba.trans hb2⟩

theorem OwS.lower {k : IntKind} {e : TypeId} {w : World} {B B' : Nat} {p : Option Addr} {n c : Nat} {xs : List Int} (h : OwS k e w B p n c xs) (hB : B' ≤ B) : OwS k e w B' p n c xs := ownsRow_lower h hB

theorem OwS.below {k : IntKind} {e : TypeId} {w w' : World} {B : Nat} {p : Option Addr} {n c : Nat} {xs : List Int} (h : OwS k e w B p n c xs) (hb : Below w.heap.size w w') : OwS k e w' B p n c xs := h.ch (Ch.of_below hb (fun _ => False)) (fun _ _ e => e)

/-- While a fuse is cloned: from block b into block r. -/
def GS (w : World) (b o r : Nat) (n : Int) (q : Option Addr) (l c : Nat) (ks : List Int) (V : World) : Prop :=
  V.cell? ⟨b, o, none⟩ = some (.int .i64 n) ∧ V.cell? ⟨b, o + 1, none⟩ = some (.slice q l c) ∧ Rd .i64 V q l c ks ∧ V.heap[r]? = some (.cells #[.int .i64 0, .slice none 0 0] 75 (0, 0)) ∧ w.heap.size ≤ r ∧ r < w.heap.size + 1 ∧ Below w.heap.size w V

theorem GS.stays (w : World) (b o r : Nat) (n : Int) (q : Option Addr) (l c : Nat) (ks : List Int) : Stays (GS w b o r n q l c ks) := fun _ _ h hb =>
  ⟨by rw [hb.cell (p := ⟨b, o, none⟩) (World.block_lt_of_cell? _ _ h.1)]; exact h.1, by rw [hb.cell (p := ⟨b, o + 1, none⟩) (World.block_lt_of_cell? _ _ h.2.1)]; exact h.2.1, h.2.2.1.below' hb, by rw [hb.block r (Array.getElem?_eq_some_iff.1 h.2.2.2.1).1]; exact h.2.2.2.1, h.2.2.2.2.1, h.2.2.2.2.2.1, h.2.2.2.2.2.2.trans (hb.mono h.2.2.2.2.2.2.size)⟩

theorem GSR.stays (w : World) (b o r : Nat) (n : Int) (q : Option Addr) (l c : Nat) (ks : List Int) (p' : Option Addr) (c' : Nat) : Stays (fun U => GS w b o r n q l c ks U ∧ Rd .i64 U p' l c' ks ∧ (∀ x, p' = some x → r < x.block ∧ x.block < U.heap.size)) := fun U U' h hb =>
  ⟨GS.stays w b o r n q l c ks U U' h.1 hb, h.2.1.below' hb, fun x e => ⟨(h.2.2 x e).1, Nat.lt_of_lt_of_le (h.2.2 x e).2 hb.size⟩⟩

set_option linter.unusedSimpArgs false in
set_option maxRecDepth 20000 in
theorem fclone_at (w : World) (b o : Nat) (n : Int) (q : Option Addr) (l c : Nat) (ks : List Int) (h0 : w.cell? ⟨b, o, none⟩ = some (.int .i64 n)) (h1 : w.cell? ⟨b, o + 1, none⟩ = some (.slice q l c)) (hr : Rd .i64 w q l c ks) (hl : l ≤ 1099511627776) :
    Calls Tryz.prog 50 #[.pointer (some ⟨b, o, none⟩)] w fun e w' => ∃ p' c', e = .returned (.agg #[.int .i64 n, .slice p' l c']) ∧ Rd .i64 w' p' l c' ks ∧ Below w.heap.size w w' ∧ (∀ x, p' = some x → w.heap.size ≤ x.block ∧ x.block < w'.heap.size) := by
  have hb1 : Below w.heap.size w (w.alloc (.cells #[.int .i64 0, .slice none 0 0] 75)) := (Below.refl _ _).alloc (Nat.le_refl _) _
  obtain ⟨r, hrr⟩ : ∃ r, r = w.heap.size := ⟨_, rfl⟩
  have hS0 : GS w b o r n q l c ks (w.alloc (.cells #[.int .i64 0, .slice none 0 0] 75)).drew := GS.stays w b o r n q l c ks _ _ ⟨by rw [hb1.cell (p := ⟨b, o, none⟩) (World.block_lt_of_cell? _ _ h0)]; exact h0, by rw [hb1.cell (p := ⟨b, o + 1, none⟩) (World.block_lt_of_cell? _ _ h1)]; exact h1, hr.below' hb1, by rw [hrr]; exact heap_alloc_new _ _, by omega, by omega, hb1⟩ (Below.refl _ _).drew
  have HR : Hid (r = w.heap.size) := hrr
  clear h0 h1 hr hb1
  go_enter Tryz.func50, Tryz.ntmps50
  go_wp2_with fail
  rw [← hrr]
  clear hrr
  refine wp_region_det [0, 1, 2, 3, 4, 5, 6, 7, 9] (GS w b o r n q l c ks) (GS w b o r n q l c ks) (by kernel_rfl) hS0 ?_
  refine wpDet_take ?vF0 (GS.stays w b o r n q l c ks) (fun _ h => h) (i := 0) rfl (by kernel_rfl) (by kernel_rfl) (by kernel_rfl) (by kernel_rfl) (fun _ _ _ h => h) (Gives.value (by rfl) ?yF0) ?rF0
  case yF0 => (intro w' hSw; (try dsimp only at hSw); go_simp; try with_reducible rfl)
  (try simp only [Act.put, List.getElem_toArray, List.getElem_cons_zero, List.getElem_cons_succ, List.setIfInBounds_toArray, List.set_cons_zero, List.set_cons_succ])
  refine wpDet_take ?vF1 (GS.stays w b o r n q l c ks) (fun _ h => h) (i := 1) rfl (by kernel_rfl) (by kernel_rfl) (by kernel_rfl) (by kernel_rfl) (fun _ _ _ h => h) (Gives.value (by rfl) ?yF1) ?rF1
  case yF1 => (intro w' hSw; (try dsimp only at hSw); go_simp; try with_reducible rfl)
  (try simp only [Act.put, List.getElem_toArray, List.getElem_cons_zero, List.getElem_cons_succ, List.setIfInBounds_toArray, List.set_cons_zero, List.set_cons_succ])
  refine wpDet_take ?vF2 (GS.stays w b o r n q l c ks) (fun _ h => h) (i := 2) rfl (by kernel_rfl) (by kernel_rfl) (by kernel_rfl) (by kernel_rfl) (fun _ _ _ h => h) (Gives.value (by rfl) ?yF2) ?rF2
  case yF2 => (intro w' hSw; (try dsimp only at hSw); go_simp; try with_reducible rfl)
  (try simp only [Act.put, List.getElem_toArray, List.getElem_cons_zero, List.getElem_cons_succ, List.setIfInBounds_toArray, List.set_cons_zero, List.set_cons_succ])
  refine wpDet_take ?vF3 (GS.stays w b o r n q l c ks) (fun _ h => h) (i := 3) rfl (by kernel_rfl) (by kernel_rfl) (by kernel_rfl) (by kernel_rfl) (fun _ _ _ h => h) (Gives.value (by rfl) ?yF3) ?rF3
  case yF3 => (intro w' hSw; have hq0 := hSw.1; (try dsimp only at hSw); go_simp; try with_reducible rfl)
  (try simp only [Act.put, List.getElem_toArray, List.getElem_cons_zero, List.getElem_cons_succ, List.setIfInBounds_toArray, List.set_cons_zero, List.set_cons_succ])
  refine wpDet_take ?vF4 (GS.stays w b o r n q l c ks) (fun _ h => h) (i := 4) rfl (by kernel_rfl) (by kernel_rfl) (by kernel_rfl) (by kernel_rfl) (fun _ _ _ h => h) (Gives.value (by rfl) ?yF4) ?rF4
  case yF4 => (intro w' hSw; (try dsimp only at hSw); go_simp; try with_reducible rfl)
  (try simp only [Act.put, List.getElem_toArray, List.getElem_cons_zero, List.getElem_cons_succ, List.setIfInBounds_toArray, List.set_cons_zero, List.set_cons_succ])
  refine wpDet_take ?vF5 (GS.stays w b o r n q l c ks) (fun _ h => h) (i := 5) rfl (by kernel_rfl) (by kernel_rfl) (by kernel_rfl) (by kernel_rfl) (fun _ _ _ h => h) (Gives.value (by rfl) ?yF5) ?rF5
  case yF5 => (intro w' hSw; (try dsimp only at hSw); go_simp; try with_reducible rfl)
  (try simp only [Act.put, List.getElem_toArray, List.getElem_cons_zero, List.getElem_cons_succ, List.setIfInBounds_toArray, List.set_cons_zero, List.set_cons_succ])
  refine wpDet_take ?vF6 (GS.stays w b o r n q l c ks) (fun _ h => h) (i := 6) rfl (by kernel_rfl) (by kernel_rfl) (by kernel_rfl) (by kernel_rfl) (fun _ _ _ h => h) (Gives.value (by rfl) ?yF6) ?rF6
  case yF6 => (intro w' hSw; (try dsimp only at hSw); go_simp; try with_reducible rfl)
  (try simp only [Act.put, List.getElem_toArray, List.getElem_cons_zero, List.getElem_cons_succ, List.setIfInBounds_toArray, List.set_cons_zero, List.set_cons_succ])
  refine wpDet_take ?vF7 (GS.stays w b o r n q l c ks) (fun _ h => h) (i := 7) rfl (by kernel_rfl) (by kernel_rfl) (by kernel_rfl) (by kernel_rfl) (fun _ _ _ h => h) (Gives.value (by rfl) ?yF7) ?rF7
  case yF7 => (intro w' hSw; have hq0 := hSw.2.1; (try dsimp only at hSw); go_simp; try with_reducible rfl)
  (try simp only [Act.put, List.getElem_toArray, List.getElem_cons_zero, List.getElem_cons_succ, List.setIfInBounds_toArray, List.set_cons_zero, List.set_cons_succ])
  refine wpDet_ready (rs := [8]) (by kernel_rfl) (by simp) (AllDet.cons rfl (fun V hV K hK => ?_) AllDet.nil)
  rw [if_pos (by rfl)]
  have hC := iclone_any q l c ks V hV.2.2.1 hl
  have hrV := (Array.getElem?_eq_some_iff.1 hV.2.2.2.1).1
  refine wp_enterX 82 #[.slice q l c] (by first | (go_simp; done) | (go_simp; rfl)) (fun v V' => ∃ p' c', v = .slice p' l c' ∧ Rd .i64 V' p' l c' ks ∧ Below V.heap.size V V' ∧ (∀ x, p' = some x → V.heap.size ≤ x.block ∧ x.block < V'.heap.size)) (hC.mono fun e V' ⟨p', c', h1, h2⟩ => ⟨_, h1, p', c', rfl, h2⟩) ?_
  rintro v V' ⟨p', c', rfl, h2, h3, h4⟩
  have hst := GS.stays w b o r n q l c ks V V' hV h3
  refine hK.out (fun U => GS w b o r n q l c ks U ∧ Rd .i64 U p' l c' ks ∧ (∀ x, p' = some x → r < x.block ∧ x.block < U.heap.size)) _ _ (GSR.stays w b o r n q l c ks p' c') (fun _ _ h => h.1) ⟨hst, h2, fun x e => ⟨Nat.lt_of_lt_of_le hrV (h4 x e).1, (h4 x e).2⟩⟩ ?_
  clear hK K hC hV h2 h3 h4 hst hrV
  (try simp only [Act.put, List.getElem_toArray, List.getElem_cons_zero, List.getElem_cons_succ, List.setIfInBounds_toArray, List.set_cons_zero, List.set_cons_succ])
  refine wpDet_take ?vF9 (GSR.stays w b o r n q l c ks p' c') (fun _ h => h.1) (i := 9) rfl (by kernel_rfl) (by kernel_rfl) (by kernel_rfl) (by kernel_rfl) (fun _ _ _ h => h) (Gives.value (by rfl) ?yF9) ?rF9
  case yF9 => (intro w' hSw; (try dsimp only at hSw); go_simp; try with_reducible rfl)
  (try simp only [Act.put, List.getElem_toArray, List.getElem_cons_zero, List.getElem_cons_succ, List.setIfInBounds_toArray, List.set_cons_zero, List.set_cons_succ])
  refine wpDet_ready (rs := [10]) (by kernel_rfl) (by simp) (AllDet.cons rfl (fun V hV K hK => ?_) AllDet.nil)
  rw [if_pos (by rfl)]
  refine wp_store_row 75 _ _ rfl r #[.int .i64 n, .slice p' l c'] rfl rfl _ _ hV.1.2.2.2.1 sizeFu rfl (oneFu _ _ _ _) ?_
  have hb9 := hV.1.2.2.2.2.2.2.trans (below_setRow2 V r #[.int .i64 n, .slice p' l c'] hV.1.2.2.2.2.1)
  have hr9 := hV.2.1.ch (S := fun k => k = r) (ch_setRow V r #[.int .i64 n, .slice p' l c']) (fun x e e2 => absurd (hV.2.2 x e).1 (by rw [e2]; exact Nat.lt_irrefl _))
  refine hK.out (FE w r n l ks p' c') _ _ (FE.stays w r n l ks p' c') (no_lean (by kernel_rfl)) ⟨row_setRow V r _ hV.1.2.2.2.1, hr9, hb9, fun x e => ⟨Nat.le_trans hV.1.2.2.2.2.1 (Nat.le_of_lt (hV.2.2 x e).1), Nat.lt_of_lt_of_le (hV.2.2 x e).2 (ch_setRow V r _).size⟩⟩ ?_
  clear hK K hV hb9 hr9
  (try simp only [Act.put, List.getElem_toArray, List.getElem_cons_zero, List.getElem_cons_succ, List.setIfInBounds_toArray, List.set_cons_zero, List.set_cons_succ])
  refine wpDet_done (by kernel_rfl) (fun w8 hV => ?_) _
  obtain ⟨hrow, hrd, hbl, hfr⟩ := hV
  go_wp2_with fail
  exact bodyPost_ret (results_cell_row (p := 2) rfl _ _ r _ _ _ _ rfl hrow Tryz.underlying75 rfl sizeFu) rfl ⟨p', c', rfl, hrd, hbl, hfr⟩

theorem sizeFi : (Tryz.prog.info? 72).map (·.size) = some 3 := by kernel_rfl

theorem oneFi (p : Option Addr) (l c : Nat) (q : Option Addr) (m d : Nat) (b : Bool) : (#[.slice p l c, .slice q m d, .bool b] : Array Value).all (·.oneCell') = true := by simp [Value.oneCell']

/-- While a file is cloned. -/
def HS (w : World) (b o r : Nat) (f : Fl) (xs ys : List Int) (V : World) : Prop :=
  V.cell? ⟨b, o, none⟩ = some (.slice f.tp f.tn f.tc) ∧ V.cell? ⟨b, o + 1, none⟩ = some (.slice f.lp f.ln f.lc) ∧ V.cell? ⟨b, o + 2, none⟩ = some (.bool f.cl) ∧ Rd .u8 V f.tp f.tn f.tc xs ∧ Rd .u8 V f.lp f.ln f.lc ys ∧ V.heap[r]? = some (.cells #[.slice none 0 0, .slice none 0 0, .bool false] 72 (0, 0)) ∧ w.heap.size ≤ r ∧ Below w.heap.size w V

theorem HS.stays (w : World) (b o r : Nat) (f : Fl) (xs ys : List Int) : Stays (HS w b o r f xs ys) := fun _ _ h hb =>
  ⟨by rw [hb.cell (p := ⟨b, o, none⟩) (World.block_lt_of_cell? _ _ h.1)]; exact h.1, by rw [hb.cell (p := ⟨b, o + 1, none⟩) (World.block_lt_of_cell? _ _ h.2.1)]; exact h.2.1, by rw [hb.cell (p := ⟨b, o + 2, none⟩) (World.block_lt_of_cell? _ _ h.2.2.1)]; exact h.2.2.1, h.2.2.2.1.below' hb, h.2.2.2.2.1.below' hb, by rw [hb.block r (Array.getElem?_eq_some_iff.1 h.2.2.2.2.2.1).1]; exact h.2.2.2.2.2.1, h.2.2.2.2.2.2.1, h.2.2.2.2.2.2.2.trans (hb.mono h.2.2.2.2.2.2.2.size)⟩

theorem HS1.stays (w : World) (b o r : Nat) (f : Fl) (xs ys : List Int) (p1 : Option Addr) (c1 : Nat) : Stays (fun U => HS w b o r f xs ys U ∧ OwS .u8 5 U r p1 f.tn c1 xs ∧ (∀ x, p1 = some x → r < x.block)) := fun U U' h hb =>
  ⟨HS.stays w b o r f xs ys U U' h.1 hb, h.2.1.below hb, h.2.2⟩

theorem HS2.stays (w : World) (b o r : Nat) (f : Fl) (xs ys : List Int) (p1 : Option Addr) (c1 : Nat) (p2 : Option Addr) (c2 : Nat) : Stays (fun U => (HS w b o r f xs ys U ∧ OwS .u8 5 U r p1 f.tn c1 xs ∧ (∀ x, p1 = some x → r < x.block)) ∧ OwS .u8 5 U r p2 f.ln c2 ys ∧ (∀ x, p2 = some x → r < x.block ∧ ∀ y, p1 = some y → y.block ≠ x.block)) := fun U U' h hb =>
  ⟨HS1.stays w b o r f xs ys p1 c1 U U' h.1 hb, h.2.1.below hb, h.2.2⟩

/-- When it is cloned. -/
def HE (w : World) (r : Nat) (f : Fl) (xs ys : List Int) (p1 : Option Addr) (c1 : Nat) (p2 : Option Addr) (c2 : Nat) (V : World) : Prop :=
  V.heap[r]? = some (.cells #[.slice p1 f.tn c1, .slice p2 f.ln c2, .bool f.cl] 72 (0, 0)) ∧ OwS .u8 5 V r p1 f.tn c1 xs ∧ OwS .u8 5 V r p2 f.ln c2 ys ∧ Below w.heap.size w V ∧ (∀ x, p1 = some x → r < x.block) ∧ (∀ x, p2 = some x → r < x.block ∧ ∀ y, p1 = some y → y.block ≠ x.block)

theorem HE.stays (w : World) (r : Nat) (f : Fl) (xs ys : List Int) (p1 : Option Addr) (c1 : Nat) (p2 : Option Addr) (c2 : Nat) : Stays (HE w r f xs ys p1 c1 p2 c2) := fun _ _ h hb =>
  ⟨by rw [hb.block r (Array.getElem?_eq_some_iff.1 h.1).1]; exact h.1, h.2.1.below hb, h.2.2.1.below hb, h.2.2.2.1.trans (hb.mono h.2.2.2.1.size), h.2.2.2.2.1, h.2.2.2.2.2⟩

end Go.Proofs.YtpjhadaiodnnaaaGreat.M
end

section
namespace Go.Proofs.YtpjhadaiodnnaaaGreat.M
open Go.ChangeShapes Go.WideShapes Go.ChangeAt Go.RowKit

theorem Ch.setCells (b : Nat) : ∀ (vs : List Value) (o : Nat) (w : World), Ch (fun k => k = b) w (w.setCells b o vs)
  | [], _, w => Ch.refl _ w
  | v :: r, o, w => (Ch.setCell w ⟨b, o, none⟩ v).trans (Ch.setCells b r (o + 1) _)

theorem wp_runs {P : Program} {op : Oper} {a : Act} {w : World} {K : Act → World → Prop} {Q : Exit → Act → World → Prop} {v : Value} {w' : World} (h : (execOp a.eval op).run P w = .ok (.value v) w') (k : K (a.put op.dst v) w') : op.wp P a w K Q := by
  unfold Oper.wp
  rw [h]
  exact k

/-- While a disk is cloned. -/
def QS (w : World) (g : Nat) (d : Dk) (ks : List Int) (V : World) : Prop := DC V g d ∧ Rd .i64 V d.kp d.kn d.kc ks ∧ Below w.heap.size w V

theorem QS.stays (w : World) (g : Nat) (d : Dk) (ks : List Int) : Stays (QS w g d ks) := fun _ _ h hb => ⟨h.1.below hb h.1.lt, h.2.1.below' hb, h.2.2.trans (hb.mono h.2.2.size)⟩

theorem QSR.stays (w : World) (g : Nat) (d : Dk) (ks : List Int) (p' : Option Addr) (c' : Nat) : Stays (fun U => QS w g d ks U ∧ Rd .i64 U p' d.kn c' ks ∧ (∀ x, p' = some x → w.heap.size ≤ x.block ∧ x.block < U.heap.size)) := fun U U' h hb =>
  ⟨QS.stays w g d ks U U' h.1 hb, h.2.1.below' hb, fun x e => ⟨(h.2.2 x e).1, Nat.lt_of_lt_of_le (h.2.2 x e).2 hb.size⟩⟩

/-- While its k-th file is. -/
def KS (wr : World) (g gc k : Nat) (f : Fl) (xs ys : List Int) (V : World) : Prop :=
  V.cell? ⟨g, 2 + k * 3, none⟩ = some (.slice f.tp f.tn f.tc) ∧ V.cell? ⟨g, 2 + k * 3 + 1, none⟩ = some (.slice f.lp f.ln f.lc) ∧ V.cell? ⟨g, 2 + k * 3 + 2, none⟩ = some (.bool f.cl) ∧ Rd .u8 V f.tp f.tn f.tc xs ∧ Rd .u8 V f.lp f.ln f.lc ys ∧ V.there gc (2 + k * 3) 3 ∧ Below wr.heap.size wr V

theorem there_below {w w' : World} {b o n : Nat} (h : w.there b o n) (h0 : 0 < n) (hb : Below w.heap.size w w') : w'.there b o n := fun j hj => by
  obtain ⟨v, hv⟩ := Option.isSome_iff_exists.1 (h 0 h0).1
  have hlt := World.block_lt_of_cell? _ _ hv
  rw [hb.cell (p := ⟨b, o + j, none⟩) hlt, hb.frozen (p := ⟨b, o + j, none⟩) hlt]
  exact h j hj

theorem KS.stays (wr : World) (g gc k : Nat) (f : Fl) (xs ys : List Int) : Stays (KS wr g gc k f xs ys) := fun _ _ h hb =>
  ⟨by rw [hb.cell (p := ⟨g, 2 + k * 3, none⟩) (World.block_lt_of_cell? _ _ h.1)]; exact h.1, by rw [hb.cell (p := ⟨g, 2 + k * 3 + 1, none⟩) (World.block_lt_of_cell? _ _ h.2.1)]; exact h.2.1, by rw [hb.cell (p := ⟨g, 2 + k * 3 + 2, none⟩) (World.block_lt_of_cell? _ _ h.2.2.1)]; exact h.2.2.1, h.2.2.2.1.below' hb, h.2.2.2.2.1.below' hb, there_below h.2.2.2.2.2.1 (by decide) hb, h.2.2.2.2.2.2.trans (hb.mono h.2.2.2.2.2.2.size)⟩

theorem KSR.stays (wr : World) (g gc k : Nat) (f : Fl) (xs ys : List Int) (p1 : Option Addr) (c1 : Nat) (p2 : Option Addr) (c2 : Nat) : Stays (fun U => KS wr g gc k f xs ys U ∧ OwS .u8 5 U wr.heap.size p1 f.tn c1 xs ∧ OwS .u8 5 U wr.heap.size p2 f.ln c2 ys) := fun U U' h hb =>
  ⟨KS.stays wr g gc k f xs ys U U' h.1 hb, h.2.1.below hb, h.2.2.below hb⟩

/-- A disk without bytes, else like d. -/
def dkN (d : Dk) (p' : Option Addr) (c' : Nat) : Dk := ⟨d.room, d.down, fun _ => ⟨none, 0, 0, none, 0, 0, false⟩, d.left, p', d.kn, c'⟩

set_option linter.unusedSimpArgs false in
theorem dkN_dc (V : World) (d : Dk) (p' : Option Addr) (c' : Nat) : DC (V.alloc (.cells #[.int .i64 d.room, .bool d.down, .slice none 0 0, .slice none 0 0, .bool false, .slice none 0 0, .slice none 0 0, .bool false, .slice none 0 0, .slice none 0 0, .bool false, .slice none 0 0, .slice none 0 0, .bool false, .slice none 0 0, .slice none 0 0, .bool false, .slice none 0 0, .slice none 0 0, .bool false, .slice none 0 0, .slice none 0 0, .bool false, .slice none 0 0, .slice none 0 0, .bool false, .int .i64 d.left, .slice p' d.kn c'] 77)) V.heap.size (dkN d p' c') := by
  refine ⟨fun j hj => ?_, fun j => World.frozen?_alloc_at _ _ _ _ rfl⟩
  unfold dkN
  match j, hj with
  | 0, _ => simp [dcell, fcell]
  | 1, _ => simp [dcell, fcell]
  | 2, _ => simp [dcell, fcell]
  | 3, _ => simp [dcell, fcell]
  | 4, _ => simp [dcell, fcell]
  | 5, _ => simp [dcell, fcell]
  | 6, _ => simp [dcell, fcell]
  | 7, _ => simp [dcell, fcell]
  | 8, _ => simp [dcell, fcell]
  | 9, _ => simp [dcell, fcell]
  | 10, _ => simp [dcell, fcell]
  | 11, _ => simp [dcell, fcell]
  | 12, _ => simp [dcell, fcell]
  | 13, _ => simp [dcell, fcell]
  | 14, _ => simp [dcell, fcell]
  | 15, _ => simp [dcell, fcell]
  | 16, _ => simp [dcell, fcell]
  | 17, _ => simp [dcell, fcell]
  | 18, _ => simp [dcell, fcell]
  | 19, _ => simp [dcell, fcell]
  | 20, _ => simp [dcell, fcell]
  | 21, _ => simp [dcell, fcell]
  | 22, _ => simp [dcell, fcell]
  | 23, _ => simp [dcell, fcell]
  | 24, _ => simp [dcell, fcell]
  | 25, _ => simp [dcell, fcell]
  | 26, _ => simp [dcell, fcell]
  | 27, _ => simp [dcell, fcell]
  | k + 28, h => exact absurd h (by omega)

/-- The first k files, the others empty. -/
def cutF (f : Nat → PF) (k : Nat) : Nat → PF := fun i => if i < k then f i else ⟨[], [], false⟩

theorem cutF_step (f : Nat → PF) (k : Nat) : upP (cutF f k) k (f k) = cutF f (k + 1) := by
  funext i
  unfold upP cutF
  by_cases h : i = k
  · subst h
    rw [if_pos rfl, if_pos (Nat.lt_succ_self _)]
  · rw [if_neg h]
    by_cases h2 : i < k
    · rw [if_pos h2, if_pos (by omega)]
    · rw [if_neg h2, if_neg (by omega)]

theorem DA.cut {w : World} {B : Nat} {own : Nat → Nat} {a g : Nat} {d : Dk} {m m' : PD} (h : DA w B own a g d m) (h1 : m'.room = m.room) (h2 : m'.down = m.down) (h3 : m'.left = m.left) (h4 : m'.keep = m.keep) (h5 : ∀ i, i < 8 → m'.f i = m.f i) : DA w B own a g d m' :=
  ⟨h.dc, h.room.trans h1.symm, h.down.trans h2.symm, h.left.trans h3.symm, fun i hi => by rw [h5 i hi]; exact h.cl i hi, fun i hi => by rw [h5 i hi]; exact h.fm i hi, by rw [h4]; exact h.keep, h.og, h.ok, h.bg, h.fr⟩

/-- A disk over what makes new memory, with new marks there. -/
theorem DA.grown {w w' : World} {B : Nat} {own own' : Nat → Nat} {a g : Nat} {d : Dk} {m : PD} (h : DA w B own a g d m) (hb : Below w.heap.size w w') (ho : ∀ k, k < w.heap.size → own' k = own k) (hf : ∀ k, w'.heap.size ≤ k → own' k = 0) : DA w' B own' a g d m :=
  h.ch (S := fun _ => False) (Ch.of_below hb _) (fun e => e) (fun _ _ _ _ e => e) (fun _ _ e => e) ho hf

theorem upO_old {w : World} {B : Nat} {k : IntKind} {e : TypeId} {V : World} {own : Nat → Nat} {p : Option Addr} {n c t : Nat} {xs : List Int} (h : OwS k e V B p n c xs) (hB : w.heap.size ≤ B) {j : Nat} (hj : j < w.heap.size) : upO own p t j = own j := by
  unfold upO
  rw [if_neg]
  intro e
  cases p with
  | none => cases e
  | some x =>
    injection e with e
    have := (h.lt rfl).1
    omega

theorem upO_new {B : Nat} {k : IntKind} {e : TypeId} {V : World} {own : Nat → Nat} {p : Option Addr} {n c t : Nat} {xs : List Int} (h : OwS k e V B p n c xs) {j : Nat} (hj : V.heap.size ≤ j) : upO own p t j = own j := by
  unfold upO
  rw [if_neg]
  intro e
  cases p with
  | none => cases e
  | some x =>
    injection e with e
    have := (h.lt rfl).2
    omega

/-- One file more is cloned. -/
theorem DA.cloned {wr V : World} {B : Nat} {own : Nat → Nat} {b gc : Nat} {d : Dk} {m : PD} (h : DA wr B own b gc d m) (hbV : Below wr.heap.size wr V) {i : Nat} (hi : i < 8) {p1 : Option Addr} {n1 c1 : Nat} {p2 : Option Addr} {n2 c2 : Nat} {cl : Bool} {xs ys : List Int}
    (o1 : OwS .u8 5 V wr.heap.size p1 n1 c1 xs) (o2 : OwS .u8 5 V wr.heap.size p2 n2 c2 ys) (hap : ∀ x, p2 = some x → ∀ y, p1 = some y → y.block ≠ x.block) (hpre : cl = false → ys <+: xs) (hB : B ≤ wr.heap.size) :
    DA (V.setCells gc (2 + i * 3) [.slice p1 n1 c1, .slice p2 n2 c2, .bool cl]) B (upO (upO own p1 (mark b i)) p2 (mark b i)) b gc { d with fl := upF d.fl i ⟨p1, n1, c1, p2, n2, c2, cl⟩ } { m with f := upP m.f i ⟨xs, ys, cl⟩ } ∧ (∀ k, k < wr.heap.size → upO (upO own p1 (mark b i)) p2 (mark b i) k = own k) ∧ (∀ k, V.heap.size ≤ k → upO (upO own p1 (mark b i)) p2 (mark b i) k = own k) := by
  have ho : ∀ k, k < wr.heap.size → upO (upO own p1 (mark b i)) p2 (mark b i) k = own k := fun k hk => (upO_old o2 (Nat.le_refl _) hk).trans (upO_old o1 (Nat.le_refl _) hk)
  have hn : ∀ k, V.heap.size ≤ k → upO (upO own p1 (mark b i)) p2 (mark b i) k = own k := fun k hk => (upO_new o2 hk).trans (upO_new o1 hk)
  have hV := h.below hbV
  have hd := ((hV.dc.setTold hi p1 n1 c1).setLasts hi p2 n2 c2).setCl hi cl
  dsimp only at hd
  rw [upF_same, upF_up, upF_same, upF_up] at hd
  dsimp only at hd
  have hc := Ch.setCells gc [.slice p1 n1 c1, .slice p2 n2 c2, .bool cl] (2 + i * 3) V
  have hcc := (Ch.of_below hbV (fun k => k = gc)).trans hc
  have hgc := h.dc.lt
  have t1 : ∀ x, p1 = some x → ¬ x.block = gc := fun x e => by have := (o1.lt e).1; omega
  have t2 : ∀ x, p2 = some x → ¬ x.block = gc := fun x e => by have := (o2.lt e).1; omega
  refine ⟨⟨hd, h.room, h.down, h.left, fun j hj => ?_, fun j hj => ?_, h.keep.ch hcc (fun x e => (h.ok x e).2.1), (ho gc hgc).trans h.og, fun x e => ⟨(ho _ (h.ok x e).2.2).trans (h.ok x e).1, (h.ok x e).2.1, Nat.lt_of_lt_of_le (h.ok x e).2.2 hcc.size⟩, h.bg, fun k hk => (hn k (Nat.le_trans hc.size hk)).trans (h.fr k (Nat.le_trans hcc.size hk))⟩, ho, hn⟩
  · show (upF d.fl i _ j).cl = (upP m.f i _ j).cl
    by_cases e : j = i
    · rw [e, upF_same, upP_same]
    · rw [upF_other _ _ e, upP_other _ _ e]; exact h.cl j hj
  · show FM _ B _ (mark b j) (upF d.fl i _ j) (upP m.f i _ j).told (upP m.f i _ j).lasts
    by_cases e : j = i
    · subst e
      rw [upF_same, upP_same]
      refine ⟨(o1.lower hB).ch hc t1, (o2.lower hB).ch hc t2, fun x e => ?_, fun x e => ?_, hpre, fun _ x y e1 e2 => hap y e2 x e1⟩
      · dsimp only at e
        subst e
        unfold upO
        split
        · rfl
        · exact if_pos rfl
      · dsimp only at e
        subst e
        exact upO_at _ _ _
    · rw [upF_other _ _ e, upP_other _ _ e]
      exact (h.fm j hj).ch hcc (fun k hk e2 => by
        subst e2
        rw [h.og] at hk
        exact mark_pos b j hk.symm) ho

end Go.Proofs.YtpjhadaiodnnaaaGreat.M
end

section
namespace Go.Proofs.YtpjhadaiodnnaaaGreat.M
open Go.ChangeShapes Go.WideShapes Go.ChangeAt Go.RowKit
set_option linter.unusedSimpArgs false

/-- A reel's first record: the generation, how many were saved, the base. -/
def hdR (gen ns : Nat) (base : List Int) : List Int := putL gen ++ (putL ns ++ (putL base.length ++ base))

theorem headR_hd (r : PR) : headR r = hdR r.gen.toNat r.recs.length r.base := by
  unfold headR hdR
  simp [putAll]

theorem wL_put {lo m : Nat} (h1 : lo ≤ m) (h2 : m ≤ 1099511627776) (rest : List Int) : wL lo (putL m ++ rest, 0) = ((m : Int), (rest, 0)) := by
  unfold wL
  dsimp only
  rw [if_pos rfl, numR_putL (by omega)]
  dsimp only
  rw [if_pos rfl, if_pos ⟨h1, h2⟩, List.drop_left]

theorem bR_put {base : List Int} (h : base.length ≤ 8176) : bR 8176 (putL base.length ++ base, 0) = (base, ([], 0)) := by
  unfold bR
  dsimp only
  rw [if_pos rfl, numR_putL (by omega)]
  dsimp only
  rw [if_pos rfl, if_neg (by omega), if_neg (by rw [List.length_append]; omega), List.drop_left, List.take_length, List.drop_of_length_le (by rw [List.length_append]; exact Nat.le_refl _)]

theorem hdR_ok {gen ns : Nat} {base : List Int} (hg : gen ≤ 1099511627776) (hn : ns ≤ 1000000) (hb : base.length ≤ 8176 ∧ By base) : By (hdR gen ns base) ∧ (hdR gen ns base).length ≤ 8192 := by
  unfold hdR
  refine ⟨By.app (putL_by _) (By.app (putL_by _) (By.app (putL_by _) hb.2)), ?_⟩
  rw [List.length_append, List.length_append, List.length_append]
  have h1 := putL_len_le 5 gen (Nat.lt_of_le_of_lt hg (by decide))
  have h2 := putL_len_le 2 ns (Nat.lt_of_le_of_lt hn (by decide))
  have h3 := putL_len_le 1 base.length (Nat.lt_of_le_of_lt hb.1 (by decide))
  omega

/-- A reel's file: its first record, and the records. -/
def fileR (gen ns : Nat) (base : List Int) (recs : List (List Int)) : List Int := sealL (hdR gen ns base) ++ (recs.map sealL).flatten

theorem sealR_file (r : PR) : sealR r = fileR r.gen.toNat r.recs.length r.base r.recs := by
  unfold sealR fileR
  rw [headR_hd]

theorem fileR_put (gen ns : Nat) (base : List Int) (recs : List (List Int)) (xs : List Int) : fileR gen ns base recs ++ sealL xs = fileR gen ns base (recs ++ [xs]) := by
  unfold fileR
  simp

theorem flat_by {recs : List (List Int)} (h : ∀ d ∈ recs, By d) : By (recs.map sealL).flatten := fun x hx => by
  rw [List.mem_flatten] at hx
  obtain ⟨y, hy, hxy⟩ := hx
  obtain ⟨z, hz, rfl⟩ := List.mem_map.1 hy
  exact sealL_by (h z hz) x hxy

theorem fileR_by {gen ns : Nat} {base : List Int} {recs : List (List Int)} (hb : By base) (h : ∀ d ∈ recs, By d) : By (fileR gen ns base recs) :=
  By.app (sealL_by (By.app (putL_by _) (By.app (putL_by _) (By.app (putL_by _) hb)))) (flat_by h)

theorem getD_all {P : List Int → Prop} {l : List (List Int)} (h : ∀ i, i < l.length → P (l.getD i [])) : ∀ d ∈ l, P d := fun d hd => by
  obtain ⟨i, hi, rfl⟩ := List.getElem_of_mem hd
  have := h i hi
  rw [List.getD_eq_getElem?_getD, List.getElem?_eq_getElem hi] at this
  exact this

theorem all_getD {P : List Int → Prop} {l : List (List Int)} (h : ∀ d ∈ l, P d) : ∀ i, i < l.length → P (l.getD i []) := fun i hi => by
  rw [List.getD_eq_getElem?_getD, List.getElem?_eq_getElem hi]
  exact h _ (List.getElem_mem hi)

/-- What a reel's file is loaded as. -/
theorem ldR_file {gen ns : Nat} {base : List Int} {recs : List (List Int)} (h1 : 1 ≤ gen) (h2 : gen ≤ 1099511627776) (hn : ns ≤ recs.length) (hm : ns ≤ 1000000) (hb : base.length ≤ 8176 ∧ By base) (hr : ∀ d ∈ recs, By d ∧ d.length ≤ 8192) :
    ldR (fileR gen ns base recs) = (⟨(gen : Int), base, recs⟩, true) := by
  obtain ⟨hh1, hh2⟩ := hdR_ok h2 hm hb
  have hA : allR (fileR gen ns base recs) = (hdR gen ns base :: recs, (fileR gen ns base recs).length) := by
    have := allR_seals (hdR gen ns base :: recs) [] (fun d hd => by
      rcases List.mem_cons.1 hd with rfl | hd
      · exact ⟨hh1, hh2⟩
      · exact hr d hd) By.nil (by rw [openR_nil]; decide)
    rw [List.append_nil] at this
    have e : ((hdR gen ns base :: recs).map sealL).flatten = fileR gen ns base recs := by unfold fileR; simp
    rw [e] at this
    exact this
  unfold ldR
  rw [hA]
  dsimp only
  rw [if_neg (by simp)]
  have e0 : (hdR gen ns base :: recs).getD 0 [] = hdR gen ns base := rfl
  rw [e0]
  unfold hdR
  rw [wL_put h1 h2]
  dsimp only
  rw [wL_put (Nat.zero_le _) (by omega)]
  dsimp only
  rw [bR_put hb.1]
  rw [if_pos ⟨rfl, by rw [List.length_cons]; omega⟩, decide_eq_true rfl]
  rfl

theorem wL_ge (s : List Int × Nat) (lo : Nat) : 0 ≤ (wL lo s).1 ∧ (wL lo s).1 ≤ 1099511627776 := by
  unfold wL
  split
  · split
    · split
      · rename_i h
        exact ⟨Int.natCast_nonneg _, by have := h.2; show (((numR s.1).1 : Nat) : Int) ≤ _; omega⟩
      · exact ⟨Int.le_refl _, (by decide : (0 : Int) ≤ 1099511627776)⟩
    · exact ⟨Int.le_refl _, (by decide : (0 : Int) ≤ 1099511627776)⟩
  · exact ⟨Int.le_refl _, (by decide : (0 : Int) ≤ 1099511627776)⟩

theorem wL_by {s : List Int × Nat} (h : By s.1) (lo : Nat) : By (wL lo s).2.1 := by
  unfold wL
  split
  · split
    · split
      · exact h.drop _
      · exact h
    · exact h
  · exact h

theorem bR_ok {s : List Int × Nat} (h : By s.1) : (bR 8176 s).1.length ≤ 8176 ∧ By (bR 8176 s).1 := by
  unfold bR
  split
  · split
    · split
      · exact ⟨Nat.zero_le _, By.nil⟩
      · split
        · exact ⟨Nat.zero_le _, By.nil⟩
        · rename_i h1 h2
          refine ⟨?_, fun x hx => h.drop _ x (List.mem_of_mem_take hx)⟩
          dsimp only
          rw [List.length_take]
          omega
    · exact ⟨Nat.zero_le _, By.nil⟩
  · exact ⟨Nat.zero_le _, By.nil⟩

/-- Whatever bytes: what is loaded may be a reel. -/
theorem ldR_fit {xs : List Int} (h : By xs) : (ldR xs).1.fit ∧ 5 * (ldR xs).1.recs.length ≤ xs.length ∧ (ldR xs).1.gen ≤ 1099511627776 := by
  unfold ldR
  by_cases h0 : (allR xs).1 = []
  · rw [if_pos h0]
    exact ⟨PR.fit.z0, Nat.zero_le _, by decide⟩
  · rw [if_neg h0]
    split
    · have hp : 0 < (allR xs).1.length := List.length_pos_iff.2 h0
      have hA := allR_by xs h
      refine ⟨⟨(wL_ge _ _).1, bR_ok (wL_by (wL_by (hA 0 hp).1 _) _), fun i hi => ?_⟩, ?_, (wL_ge _ _).2⟩
      · dsimp only at hi ⊢
        rw [List.length_drop] at hi
        have := hA (1 + i) (by omega)
        rw [List.getD_eq_getElem?_getD, List.getElem?_drop, ← List.getD_eq_getElem?_getD]
        exact this
      · dsimp only
        rw [List.length_drop]
        have := allR_few5 xs h
        omega
    · exact ⟨PR.fit.z0, Nat.zero_le _, by decide⟩

/-- Of the reel that counts. -/
theorem cnt_fit {m : PD} (h : ∀ i, i < 2 → By (m.f i).told) : (cnt m).1 ≤ 1 ∧ (cnt m).2.1.fit ∧ (cnt m).2.1.gen ≤ 1099511627776 ∧ ∀ s, (∀ i, i < 2 → (m.f i).told.length ≤ s) → 5 * (cnt m).2.1.recs.length ≤ s := by
  have key : ∀ k, k ≤ 2 → (scT (fun i => (m.f i).told) k).1 ≤ 1 ∧ (scT (fun i => (m.f i).told) k).2.1.fit ∧ (scT (fun i => (m.f i).told) k).2.1.gen ≤ 1099511627776 ∧ ∀ s, (∀ i, i < 2 → (m.f i).told.length ≤ s) → 5 * (scT (fun i => (m.f i).told) k).2.1.recs.length ≤ s := by
    intro k
    induction k with
    | zero => intro _; exact ⟨Nat.le_refl _, PR.fit.z0, (by decide : (0 : Int) ≤ 1099511627776), fun s _ => Nat.zero_le _⟩
    | succ k ih =>
      intro hk
      have ih := ih (by omega)
      have hl := ldR_fit (h k (by omega))
      rw [scT]
      split
      · exact ⟨by show k ≤ 1; omega, hl.1, hl.2.2, fun s hs => Nat.le_trans hl.2.1 (hs k (by omega))⟩
      · exact ih
  exact key 2 (Nat.le_refl _)

/-- A tape's own file is its reel's, the other one has an elder reel or none. -/
structure Liv (m : PD) (t : TP) : Prop where
  file : t.file ≤ 1
  gen : 1 ≤ t.r.gen ∧ t.r.gen ≤ 1099511627776
  base : t.r.base.length ≤ 8176 ∧ By t.r.base
  recs : ∀ d ∈ t.r.recs, By d ∧ d.length ≤ 8192
  mine : ∃ ns, ns ≤ t.r.recs.length ∧ ns ≤ 1000000 ∧ (m.f t.file).told = fileR t.r.gen.toNat ns t.r.base t.r.recs
  other : (ldR (m.f (1 - t.file)).told).1.gen < t.r.gen
  bys : ∀ i, i < 2 → By (m.f i).told

theorem Liv.load {m : PD} {t : TP} (h : Liv m t) : ldR (m.f t.file).told = (t.r, true) := by
  obtain ⟨ns, h1, h2, h3⟩ := h.mine
  have hg := h.gen
  rw [h3, ldR_file (by omega) (by omega) h1 h2 h.base h.recs, Int.toNat_of_nonneg (by omega)]

/-- It is the one that counts, whole. -/
theorem Liv.cnt {m : PD} {t : TP} (h : Liv m t) : cnt m = (t.file, t.r, true) := by
  have hl := h.load
  have ho := h.other
  have hf := h.file
  have hg := h.gen
  have hz : PR.z0.gen = 0 := rfl
  unfold M.cnt
  rcases Nat.lt_or_ge t.file 1 with hf0 | hf1
  · have e0 : t.file = 0 := by omega
    rw [e0] at hl ho ⊢
    have s1 : scT (fun i => (m.f i).told) 1 = (0, t.r, true) := by
      rw [scT]
      show (if (PR.z0).gen < (ldR (m.f 0).told).1.gen then _ else _) = _
      rw [hl, if_pos (by rw [hz]; show 0 < t.r.gen; omega)]
    rw [scT, s1]
    dsimp only
    rw [if_neg (by show ¬ t.r.gen < (ldR (m.f 1).told).1.gen; have : (ldR (m.f 1).told).1.gen < t.r.gen := ho; omega)]
  · have e1 : t.file = 1 := by omega
    rw [e1] at hl ho ⊢
    have ho' : (ldR (m.f 0).told).1.gen < t.r.gen := ho
    rw [scT, hl, if_pos]
    show (scT (fun i => (m.f i).told) 1).2.1.gen < t.r.gen
    rw [scT]
    show (if (PR.z0).gen < (ldR (m.f 0).told).1.gen then (0, (ldR (m.f 0).told).1, (ldR (m.f 0).told).2) else (1, PR.z0, false)).2.1.gen < t.r.gen
    split
    · exact ho'
    · show PR.z0.gen < _
      rw [hz]
      omega

end Go.Proofs.YtpjhadaiodnnaaaGreat.M
end

section
namespace Go.Proofs.YtpjhadaiodnnaaaGreat.M
open Go.ChangeShapes Go.WideShapes Go.ChangeAt Go.RowKit
set_option linter.unusedSimpArgs false

/-- A disk with power and without a fuse. -/
structure Cal (m : PD) : Prop where
  left : m.left = 0
  up : m.down = false

theorem Cal.gone {m : PD} (h : Cal m) (n : Nat) : m.gone n = false := by
  unfold PD.gone
  exact decide_eq_false (by have := h.left; omega)

theorem Cal.act {m : PD} (h : Cal m) (n : Nat) (X : Nat → Nat → PF) : m.act n X = { m with f := X n } := by unfold PD.act; rw [if_pos h.left]

theorem Cal.f {m : PD} (h : Cal m) (f : Nat → PF) : Cal { m with f := f } := ⟨h.left, h.up⟩

theorem ldR_nil : (ldR []).1.gen = 0 := by
  unfold ldR
  rw [if_pos (by rw [allR_end (by rw [openR_nil]; decide)])]
  rfl

theorem Cal.put {m : PD} (h : Cal m) (i : Nat) (bs : List Int) : ptM m i bs = (m, 7) ∨ ptM m i bs = ({ m with f := upP m.f i { m.f i with told := (m.f i).told ++ bs } }, 0) := by
  unfold ptM
  split
  · exact Or.inl rfl
  · refine Or.inr ?_
    unfold PD.putAt
    rw [h.act, h.gone, List.take_length]
    rfl

theorem Cal.clear {m : PD} (h : Cal m) (i : Nat) : m.clearAt i = { m with f := upP m.f i ⟨[], (m.f i).lasts, true⟩ } := by
  unfold PD.clearAt
  rw [h.act]

theorem Cal.write {m : PD} (h : Cal m) (i : Nat) (bs : List Int) : wrM m i bs = ({ m with f := upP m.f i ⟨[], (m.f i).lasts, true⟩ }, 7) ∨ wrM m i bs = ({ m with f := upP m.f i ⟨bs, bs, false⟩ }, 0) := by
  unfold wrM
  rw [if_neg (by rw [h.gone]; decide), h.clear]
  split
  · exact Or.inl rfl
  · refine Or.inr ?_
    have h1 := h.f (upP m.f i ⟨[], (m.f i).lasts, true⟩)
    rw [if_neg (by rw [h1.gone]; decide)]
    have e1 : ({ m with f := upP m.f i ⟨[], (m.f i).lasts, true⟩ } : PD).putAt i bs = { m with f := upP m.f i ⟨bs, (m.f i).lasts, true⟩ } := by
      unfold PD.putAt
      rw [h1.act]
      dsimp only
      rw [upP_same, upP_up, List.take_length, List.nil_append]
    rw [e1]
    have h2 := h.f (upP m.f i ⟨bs, (m.f i).lasts, true⟩)
    unfold PD.syncAt
    rw [h2.act, h2.gone]
    dsimp only
    rw [upP_same, upP_up]
    rfl

theorem up_other {f : Nat → PF} {i j : Nat} {x : PF} (h : j ≠ i) : upP f i x j = f j := upP_other f x h

theorem Liv.put {m : PD} {t : TP} {xs : List Int} (h : Liv m t) (hc : Cal m) (hx : By xs) : Liv (ptT m t xs).2.1 (ptT m t xs).2.2 ∧ Cal (ptT m t xs).2.1 := by
  unfold ptT
  split
  · exact ⟨h, hc⟩
  · rename_i hl
    rcases hc.put t.file (sealL xs) with e | e
    · rw [e]
      dsimp only
      rw [if_neg (by decide)]
      exact ⟨h, hc⟩
    · rw [e]
      dsimp only
      rw [if_pos rfl]
      refine ⟨⟨h.file, h.gen, h.base, fun d hd => ?_, ?_, ?_, fun i hi => ?_⟩, hc.f _⟩
      · rcases List.mem_append.1 hd with hd | hd
        · exact h.recs d hd
        · rw [List.mem_singleton] at hd
          rw [hd]
          exact ⟨hx, by omega⟩
      · obtain ⟨ns, h1, h2, h3⟩ := h.mine
        refine ⟨ns, ?_, h2, ?_⟩
        · show ns ≤ (t.r.recs ++ [xs]).length
          rw [List.length_append]
          omega
        · show (upP m.f t.file _ t.file).told = _
          rw [upP_same]
          show (m.f t.file).told ++ sealL xs = _
          rw [h3, fileR_put]
      · show (ldR (upP m.f t.file _ (1 - t.file)).told).1.gen < t.r.gen
        rw [up_other (by have := h.file; omega)]
        exact h.other
      · show By (upP m.f t.file _ i).told
        by_cases e2 : i = t.file
        · rw [e2, upP_same]
          exact By.app (h.bys t.file (by have := h.file; omega)) (sealL_by hx)
        · rw [up_other e2]
          exact h.bys i hi

theorem Liv.sync {m : PD} {t : TP} (h : Liv m t) (hc : Cal m) : Liv (syT m t).2.1 (syT m t).2.2 ∧ Cal (syT m t).2.1 ∧ (syT m t).2.2.r = t.r := by
  unfold syT
  dsimp only
  rw [hc.gone]
  have e0 : goneE false = 0 := rfl
  rw [if_pos e0]
  unfold PD.syncAt
  rw [hc.act]
  have key : ∀ i, (upP m.f t.file ⟨(m.f t.file).told, (m.f t.file).told, false⟩ i).told = (m.f i).told := fun i => by
    by_cases e2 : i = t.file
    · rw [e2, upP_same]
    · rw [up_other e2]
  refine ⟨⟨h.file, h.gen, h.base, h.recs, ?_, ?_, fun i hi => ?_⟩, hc.f _, rfl⟩
  · obtain ⟨ns, h1, h2, h3⟩ := h.mine
    exact ⟨ns, h1, h2, (key t.file).trans h3⟩
  · show (ldR (upP m.f t.file _ (1 - t.file)).told).1.gen < t.r.gen
    rw [key]
    exact h.other
  · show By (upP m.f t.file _ i).told
    rw [key]
    exact h.bys i hi

theorem Liv.save {m : PD} {t : TP} {base : List Int} {recs : List (List Int)} (h : Liv m t) (hc : Cal m) (hb : By base) (hr : ∀ d ∈ recs, By d) (hn : recs.length ≤ 1000000) : Liv (svT m t base recs).2.1 (svT m t base recs).2.2 ∧ Cal (svT m t base recs).2.1 := by
  unfold svT
  split
  · exact ⟨h, hc⟩
  · rename_i h40
    split
    · exact ⟨h, hc⟩
    · rename_i hfit
      obtain ⟨hf1, hf2⟩ := fits_yes hfit
      have hfi := h.file
      have hg := h.gen
      have hne : t.file ≠ 1 - t.file := by omega
      rcases hc.write (1 - t.file) (sealR ⟨t.r.gen + 1, base, recs⟩) with e | e
      · rw [e]
        dsimp only
        rw [if_neg (by decide)]
        refine ⟨⟨h.file, h.gen, h.base, h.recs, ?_, ?_, fun i hi => ?_⟩, hc.f _⟩
        · obtain ⟨ns, h1, h2, h3⟩ := h.mine
          refine ⟨ns, h1, h2, ?_⟩
          show (upP m.f (1 - t.file) _ t.file).told = _
          rw [up_other hne]
          exact h3
        · show (ldR (upP m.f (1 - t.file) _ (1 - t.file)).told).1.gen < t.r.gen
          rw [upP_same, ldR_nil]
          omega
        · show By (upP m.f (1 - t.file) _ i).told
          by_cases e2 : i = 1 - t.file
          · rw [e2, upP_same]
            exact By.nil
          · rw [up_other e2]
            exact h.bys i hi
      · rw [e]
        dsimp only
        rw [if_pos rfl]
        have hgen : (t.r.gen + 1).toNat = t.r.gen.toNat + 1 := by omega
        refine ⟨⟨by show 1 - t.file ≤ 1; omega, by show 1 ≤ t.r.gen + 1 ∧ t.r.gen + 1 ≤ 1099511627776; omega, ⟨hf1, hb⟩, fun d hd => ⟨hr d hd, getD_all (P := fun d => d.length ≤ 8192) hf2 d hd⟩, ?_, ?_, fun i hi => ?_⟩, hc.f _⟩
        · refine ⟨recs.length, Nat.le_refl _, hn, ?_⟩
          show (upP m.f (1 - t.file) _ (1 - t.file)).told = _
          rw [upP_same]
          exact sealR_file _
        · show (ldR (upP m.f (1 - t.file) _ (1 - (1 - t.file))).told).1.gen < t.r.gen + 1
          rw [show 1 - (1 - t.file) = t.file by omega, up_other hne, h.load]
          show t.r.gen < t.r.gen + 1
          omega
        · show By (upP m.f (1 - t.file) _ i).told
          by_cases e2 : i = 1 - t.file
          · rw [e2, upP_same]
            show By (sealR _)
            rw [sealR_file]
            exact fileR_by hb hr
          · rw [up_other e2]
            exact h.bys i hi

theorem ptT_no {m : PD} {t : TP} {xs : List Int} (h : (ptT m t xs).1 ≠ 0) : (ptT m t xs).2.2 = t := by
  unfold ptT at h ⊢
  split
  · rfl
  · rename_i hl
    rw [if_neg hl] at h
    exact if_neg h

theorem svT_no {m : PD} {t : TP} {base : List Int} {recs : List (List Int)} (h : (svT m t base recs).1 ≠ 0) : (svT m t base recs).2.2 = t := by
  unfold svT at h ⊢
  split
  · rfl
  · rename_i h1
    rw [if_neg h1] at h
    split
    · rfl
    · rename_i h2
      rw [if_neg h2] at h
      exact if_neg h

theorem sealR_len2 {r : PR} (hb : r.base.length ≤ 8176 ∧ By r.base) (hg : 0 ≤ r.gen ∧ r.gen ≤ 1099511627776) (hn : r.recs.length ≤ 1000000) (h : ∀ i, i < r.recs.length → (r.recs.getD i []).length ≤ 8192) : (sealR r).length ≤ 8206 * (r.recs.length + 1) := by
  unfold sealR
  rw [List.length_append, headR_hd]
  have h1 := sealL_len_le (hdR_ok (gen := r.gen.toNat) (ns := r.recs.length) (by omega) hn hb).2
  have h2 := flat_len (l := r.recs) h r.recs.length (Nat.le_refl _)
  rw [List.take_length] at h2
  omega

theorem ptT_ok {m : PD} {t : TP} {xs : List Int} {s : Nat} (h : m.ok s) (hf : t.file ≤ 1) : (ptT m t xs).2.1.ok (s + 8206) := by
  unfold ptT
  split
  · exact h.mono (Nat.le_add_right _ _)
  · rename_i hl
    exact (ptM_ok h (by omega) (sealL xs)).mono (by have := sealL_len_le (ys := xs) (by omega); omega)

theorem svT_ok {m : PD} {t : TP} {base : List Int} {recs : List (List Int)} {s : Nat} (h : m.ok s) (hf : t.file ≤ 1) (hg : 0 ≤ t.r.gen) (hb : By base) (hn : recs.length ≤ 1000000) : (svT m t base recs).2.1.ok (s + 8206 * (recs.length + 1)) := by
  unfold svT
  split
  · exact h.mono (Nat.le_add_right _ _)
  · rename_i h40
    split
    · exact h.mono (Nat.le_add_right _ _)
    · rename_i hfit
      obtain ⟨hf1, hf2⟩ := fits_yes hfit
      refine (wrM_ok h (show 1 - t.file < 8 by omega) _).mono ?_
      have := sealR_len2 (r := ⟨t.r.gen + 1, base, recs⟩) ⟨hf1, hb⟩ (by show 0 ≤ t.r.gen + 1 ∧ t.r.gen + 1 ≤ 1099511627776; omega) hn hf2
      show s + (sealR ⟨t.r.gen + 1, base, recs⟩).length ≤ s + 8206 * (recs.length + 1)
      have e : (sealR ⟨t.r.gen + 1, base, recs⟩).length ≤ 8206 * (recs.length + 1) := this
      omega

end Go.Proofs.YtpjhadaiodnnaaaGreat.M
end

section
namespace Go.Proofs.YtpjhadaiodnnaaaGreat.M
open Go.ChangeShapes Go.WideShapes Go.ChangeAt Go.RowKit
set_option linter.unusedSimpArgs false

/-- A call as it lies in memory, and what its slices hold. -/
structure Tv where
  op : Int
  n : Int
  bq : Option Addr
  bl : Nat
  bc : Nat
  lq : Option Addr
  ll : Nat
  lc : Nat
  kq : Option Addr
  kl : Nat
  kc : Nat
  b : List Int
  us : List Value
  l : List (List Int)
  keep : List Int

def Tv.z0 : Tv := ⟨0, 0, none, 0, 0, none, 0, 0, none, 0, 0, [], [], [], []⟩

/-- Its slices can be read. -/
structure Tv.rd (w : World) (x : Tv) : Prop where
  b : Rd .u8 w x.bq x.bl x.bc x.b
  v : RdV w x.lq x.ll x.lc x.us
  s : Sls w x.us x.l
  k : Rd .i64 w x.kq x.kl x.kc x.keep
  n : -9223372036854775808 ≤ x.n ∧ x.n ≤ 9223372036854775807
  y : By x.b
  z : ∀ d ∈ x.l, By d

theorem Tv.rd.below {w w' : World} {x : Tv} (h : x.rd w) (hb : Below w.heap.size w w') : x.rd w' := ⟨h.b.below' hb, h.v.below hb, h.s.below hb, h.k.below' hb, h.n, h.y, h.z⟩

theorem Tv.rd.ll {w : World} {x : Tv} (h : x.rd w) : x.ll = x.l.length := by rw [← h.s.1, h.v.len]

theorem cell_belowB {B : Nat} {w w' : World} {p : Addr} {v : Value} (hb : Below B w w') (hp : p.block < B) (h : w.cell? p = some v) : w'.cell? p = some v := by rw [hb.cell hp]; exact h

/-- A call's five cells. -/
structure Tv.at (w : World) (b o : Nat) (x : Tv) : Prop where
  c0 : w.cell? ⟨b, o, none⟩ = some (.int .i64 x.op)
  c1 : w.cell? ⟨b, o + 1, none⟩ = some (.int .i64 x.n)
  c2 : w.cell? ⟨b, o + 2, none⟩ = some (.slice x.bq x.bl x.bc)
  c3 : w.cell? ⟨b, o + 3, none⟩ = some (.slice x.lq x.ll x.lc)
  c4 : w.cell? ⟨b, o + 4, none⟩ = some (.slice x.kq x.kl x.kc)

theorem Tv.at.below {w w' : World} {b o : Nat} {x : Tv} (h : x.at w b o) {B : Nat} (hb : Below B w w') (hB : b < B) : x.at w' b o :=
  ⟨cell_belowB hb hB h.c0, cell_belowB hb hB h.c1, cell_belowB hb hB h.c2, cell_belowB hb hB h.c3, cell_belowB hb hB h.c4⟩

/-- A slice of calls that can be read. -/
structure RdT (w : World) (p : Option Addr) (n : Nat) (ls : List Tv) : Prop where
  len : ls.length = n
  cells : 0 < n → ∃ b o, p = some ⟨b, o, none⟩ ∧ ∀ j, j < n → (ls.getD j .z0).at w b (o + j * 5)
  rd : ∀ j, j < n → (ls.getD j .z0).rd w

theorem RdT.below {w w' : World} {p : Option Addr} {n : Nat} {ls : List Tv} (h : RdT w p n ls) (hb : Below w.heap.size w w') : RdT w' p n ls :=
  ⟨h.len, fun h0 => by
    obtain ⟨b, o, e, hc⟩ := h.cells h0
    exact ⟨b, o, e, fun j hj => (hc j hj).below hb (World.block_lt_of_cell? _ _ (hc j hj).c0)⟩, fun j hj => (h.rd j hj).below hb⟩

/-- The length of the first k records, as short counts them. -/
def lsz (l : List (List Int)) : Nat → Nat
  | 0 => 0
  | k + 1 => lsz l k + (4 + min (l.getD k []).length 16385)

theorem lsz_ge (l : List (List Int)) : ∀ k, 4 * k ≤ lsz l k
  | 0 => Nat.le_refl _
  | k + 1 => by
    have := lsz_ge l k
    show 4 * (k + 1) ≤ lsz l k + (4 + min (l.getD k []).length 16385)
    omega

/-- A call's length, as short counts it. -/
def Tv.sz (x : Tv) : Nat := min x.bl 16385 + min x.kl 16385 + lsz x.l x.ll

def szT (ls : List Tv) : Nat → Nat
  | 0 => 0
  | k + 1 => szT ls k + (ls.getD k .z0).sz

def totT (LL : List (List Tv)) : Nat → Nat
  | 0 => 0
  | k + 1 => totT LL k + szT (LL.getD k []) (LL.getD k []).length
def cntT (LL : List (List Tv)) : Nat → Nat
  | 0 => 0
  | k + 1 => cntT LL k + (LL.getD k []).length

/-- Slices of calls. -/
structure RdTT (w : World) (p : Option Addr) (n : Nat) (LL : List (List Tv)) : Prop where
  len : LL.length = n
  cells : 0 < n → ∃ b o, p = some ⟨b, o, none⟩ ∧ ∀ j, j < n → ∃ q m d, w.cell? ⟨b, o + j, none⟩ = some (.slice q m d) ∧ RdT w q m (LL.getD j [])

/-- What short has counted. -/
def Sh (t c : Nat) (x y : Int) : Prop := 0 ≤ x ∧ x ≤ 60000 ∧ 0 ≤ y ∧ y ≤ 61 ∧ (x ≤ 16384 → y ≤ 60 → x = t ∧ y = c)

/-- What it answers. -/
def ShE (LL : List (List Tv)) (e : Ending) : Prop := ∃ b, e = .returned (.bool b) ∧ (b = true → totT LL LL.length ≤ 16384 ∧ cntT LL LL.length ≤ 60)

/-- What it has counted while it goes through a call's records. -/
def Sk (l : List (List Int)) (x0 k : Nat) (x : Int) : Prop := 0 ≤ x ∧ x ≤ 60000 ∧ (x ≤ 16384 → x = x0 + lsz l k)

set_option maxRecDepth 20000 in
set_option maxHeartbeats 4000000 in
theorem short_any (w : World) (p : Option Addr) (n c : Nat) (LL : List (List Tv)) (h : RdTT w p n LL) (hn : n ≤ 1000) :
    Calls Tryz.prog 4 #[.slice p n c] w fun e w' => ShE LL e ∧ Below w.heap.size w w' := by
  go_enter Tryz.func4, Tryz.ntmps4
  go_wp2_with fail
  go_loopw [3, 4, 11] (fun x y i wr => ∃ (k : Nat) (p q : Int), k ≤ n ∧ i = .int .i64 k ∧ x = .int .i64 p ∧ y = .int .i64 q ∧ Sh (totT LL k) (cntT LL k) p q ∧ Below w.heap.size w wr) (fun _ _ i _ => n - (intOf i).toNat)
  case atStart => exact ⟨0, 0, 0, Nat.zero_le _, rfl, rfl, rfl, ⟨by decide, by decide, by decide, by decide, fun _ _ => ⟨rfl, rfl⟩⟩, Below.refl _ _⟩
  case round =>
    obtain ⟨k, x, y, hk, rfl, rfl, rfl, hS, hb⟩ := hrel
    by_cases hkn : k < n
    · have hki : (k : Int) < (n : Int) := by omega
      obtain ⟨b, o, rfl, hc⟩ := h.cells (by omega)
      obtain ⟨q, m, d, hq, hr⟩ := hc k hkn
      have HT : Hid (totT LL (k + 1) = totT LL k + szT (LL.getD k []) (LL.getD k []).length) := rfl
      have HC : Hid (cntT LL (k + 1) = cntT LL k + (LL.getD k []).length) := rfl
      have hq2 := cell_belowB hb (World.block_lt_of_cell? _ _ hq) hq
      have hlen := hr.len
      clear hc hq
      generalize LL.getD k [] = ls at *
      generalize totT LL k = T at *
      generalize cntT LL k = C at *
      rw [hlen] at HT HC
      go_wp2_with fail
      go_loopw [3, 4, 7] (fun x y i wq => ∃ (j : Nat) (p q : Int), j ≤ m ∧ i = .int .i64 j ∧ x = .int .i64 p ∧ y = .int .i64 q ∧ Sh (T + szT ls j) (C + j) p q ∧ Below w.heap.size w wq) (fun _ _ i _ => m - (intOf i).toNat)
      case atStart => exact ⟨0, x, y, Nat.zero_le _, rfl, rfl, rfl, hS, hb⟩
      case round =>
        rename_i wk _ _
        clear hb hS hq2
        obtain ⟨j, x, y, hj, rfl, rfl, rfl, hS, hb⟩ := hrel
        obtain ⟨s1, s2, s3, s4, s5⟩ := hS
        by_cases hjm : j < m
        · have hji : (j : Int) < (m : Int) := by omega
          by_cases hy : y ≤ 60
          · by_cases hx : x ≤ 16384
            · obtain ⟨gb, go, rfl, gc⟩ := hr.cells (by omega)
              have gj := gc j hjm
              have gj2 := gj.below hb (World.block_lt_of_cell? _ _ gj.c0)
              have gr := hr.rd j hjm
              have HZ : Hid (szT ls (j + 1) = szT ls j + (ls.getD j .z0).sz) := rfl
              obtain ⟨e1, e2⟩ := s5 hx hy
              have hj150 : j ≤ 60 := by omega
              have HLE : Hid ((ls.getD j .z0).ll = (ls.getD j .z0).l.length) := gr.ll
              have HV : Hid (RdV w (ls.getD j .z0).lq (ls.getD j .z0).ll (ls.getD j .z0).lc (ls.getD j .z0).us) := gr.v
              have HSl : Hid (Sls w (ls.getD j .z0).us (ls.getD j .z0).l) := gr.s
              have HC3 : Hid (w.cell? ⟨gb, go + j * 5 + 3, none⟩ = some (.slice (ls.getD j .z0).lq (ls.getD j .z0).ll (ls.getD j .z0).lc)) := gj.c3
              clear gc gj hr h gr
              generalize ls.getD j .z0 = z at *
              obtain ⟨op, zn, bq, bl, bc, lq, ll, lc, kq, kl, kc, xb, us, xl, xk⟩ := z
              obtain ⟨c0, c1, c2, c3, c4⟩ := gj2
              dsimp only [Tv.sz] at *
              clear s5
              have E1 : Hid (x = ((T + szT ls j : Nat) : Int)) := e1
              have E2 : Hid (y = ((C + j : Nat) : Int)) := e2
              have HB : Hid (Below w.heap.size w wr) := hb
              clear e1 e2 c0 c1 c3 hb
              go_wp2_with fail
              go_quiet (fail)
              go_wp2_with fail
              all_goals
                go_loopw [3, 8] (fun x i wz => ∃ (kk : Nat) (p : Int), kk ≤ ll ∧ i = .int .i64 kk ∧ x = .int .i64 p ∧ Sk xl (T + szT ls j + (min bl 16385 + min kl 16385)) kk p ∧ Below w.heap.size w wz) (fun _ i _ => ll - (intOf i).toNat)
                case atStart =>
                  have z2 := E1.out
                  exact ⟨0, _, Nat.zero_le _, rfl, rfl, ⟨by omega, by omega, fun _ => by show _ = ((_ + 0 : Nat) : Int); omega⟩, below_drewN HB.out nq⟩
                case round =>
                  obtain ⟨kk, x3, hkk, rfl, rfl, hS3, hb3⟩ := hrel
                  obtain ⟨t1, t2, t3⟩ := hS3
                  have d3 := cell_belowB hb3 (World.block_lt_of_cell? _ _ HC3.out) HC3.out
                  have hfin : ¬ (kk < ll ∧ x3 ≤ 16384) → ∃ (j1 : Nat) (p q : Int), j1 ≤ m ∧ Value.int .i64 ((j : Int) + 1) = .int .i64 j1 ∧ Value.int .i64 x3 = .int .i64 p ∧ Value.int .i64 (y + 1) = .int .i64 q ∧ Sh (T + szT ls j1) (C + j1) p q ∧ Below w.heap.size w wr := fun hn3 => by
                    have z1 := HZ.out
                    have z3 := E2.out
                    refine ⟨j + 1, x3, y + 1, by omega, by go_num, rfl, rfl, ⟨t1, t2, by omega, by omega, fun h1 h2 => ?_⟩, hb3⟩
                    obtain rfl : kk = ll := by omega
                    have := t3 h1
                    rw [z1]
                    omega
                  by_cases hkl : kk < ll
                  · have hkli : (kk : Int) < (ll : Int) := by omega
                    by_cases hx3 : x3 ≤ 16384
                    · clear hfin
                      obtain ⟨lb, lo, rfl, hcl⟩ := HV.out.cells (by omega)
                      obtain ⟨q3, m3, d4, hq3, hr3⟩ := HSl.out.2 kk (by rw [HV.out.len]; exact hkl)
                      have hcv := hcl kk hkl
                      rw [hq3] at hcv
                      have hcv3 := cell_belowB hb3 (World.block_lt_of_cell? _ _ hcv) hcv
                      have HM : Hid (lsz xl (kk + 1) = lsz xl kk + (4 + min m3 16385)) := by show _ = _; rw [← hr3.len]; rfl
                      have HT3 : Hid (x3 = ((T + szT ls j + (min bl 16385 + min kl 16385)) + lsz xl kk : Nat)) := t3 hx3
                      have HB3 : Hid (Below w.heap.size w wr) := hb3
                      have hkk4 : kk ≤ 4096 := by have h1 := lsz_ge xl kk; have h2 := HT3.out; omega
                      clear hcl hq3 hr3 hcv t3 hb3
                      go_wp2_with fail
                      all_goals
                        go_roundw
                        case rel =>
                          have q1 := HM.out
                          have q2 := HT3.out
                          exact ⟨kk + 1, _, by omega, by go_num, rfl, ⟨by omega, by omega, fun _ => by rw [q1]; omega⟩, HB3.out⟩
                        case measure => simp [intOf]; omega
                    · have hx3i : ¬ x3 ≤ 16384 := hx3
                      have HF := hfin (fun h => hx3 h.2)
                      clear hfin t3
                      go_wp2_with fail
                      exact ⟨HF, by simp [intOf]; omega⟩
                  · have hkli : ¬ (kk : Int) < (ll : Int) := by omega
                    have HF := hfin (fun h => hkl h.1)
                    clear hfin t3
                    go_wp2_with fail
                    exact ⟨HF, by simp [intOf]; omega⟩
            · go_wp2_with fail
              exact ⟨⟨k + 1, x, y, by omega, by go_num, rfl, rfl, ⟨s1, s2, s3, s4, fun h _ => absurd h hx⟩, hb⟩, by simp [intOf]; omega⟩
          · go_wp2_with fail
            exact ⟨⟨k + 1, x, y, by omega, by go_num, rfl, rfl, ⟨s1, s2, s3, s4, fun _ h => absurd h hy⟩, hb⟩, by simp [intOf]; omega⟩
        · obtain rfl : j = m := by omega
          go_wp2_with fail
          exact ⟨⟨k + 1, x, y, by omega, by go_num, rfl, rfl, ⟨s1, s2, s3, s4, fun h1 h2 => by rw [HT.out, HC.out]; exact s5 h1 h2⟩, hb⟩, by simp [intOf]; omega⟩
    · obtain rfl : k = n := by omega
      obtain ⟨s1, s2, s3, s4, s5⟩ := hS
      have hL := h.len
      by_cases hq : y ≤ 60
      · go_wp2_with fail
        go_ret
        refine ⟨⟨_, rfl, fun hb => ?_⟩, hb⟩
        have hx : x ≤ 16384 := of_decide_eq_true hb
        obtain ⟨e1, e2⟩ := s5 hx hq
        rw [hL]
        omega
      · go_wp2_with fail
        go_ret
        exact ⟨⟨_, rfl, fun hb => by cases hb⟩, hb⟩

end Go.Proofs.YtpjhadaiodnnaaaGreat.M
end

section
namespace Go.Proofs.YtpjhadaiodnnaaaGreat.M
open Go.ChangeShapes Go.WideShapes Go.ChangeAt Go.RowKit

theorem sl_cell {H : Type} {enc : TypeId × Value → H} {P : Program} {t e : TypeId} {W : World} {fuel : Nat} {v : Value} {x : DataW H × List MemPlace} (ht : P.underlying t = some (.slice e)) (h : DataW.trod enc P W 0 (fun _ => true) true fuel t [v] = some x) : ∃ a l c, v = .slice a l c := by
  rcases Deep.open_slice ht h with ⟨hcs, _⟩ | ⟨a, l, c, m, n, D, Pl, hcs, _⟩
  · injection hcs with hcs
    exact ⟨_, _, _, hcs⟩
  · injection hcs with hcs
    exact ⟨_, _, _, hcs⟩

/-- Five cells that were read as a call. -/
theorem five_tv {H : Type} {enc : TypeId × Value → H} {W : World} {fuel : Nat} {cs : List Value} {x : DataW H × List MemPlace} (hlen : cs.length = 5)
    (h : DataW.trod enc Tryz.prog W 0 (fun _ => true) true fuel 44 cs = some x) : ∃ z : Tv, cs = [.int .i64 z.op, .int .i64 z.n, .slice z.bq z.bl z.bc, .slice z.lq z.ll z.lc, .slice z.kq z.kl z.kc] ∧ z.rd W := by
  obtain ⟨xs, k, _, _, _, hxl, hff⟩ := DataW.trod_struct Tryz.underlying44 h
  have i1 : Tryz.prog.cellsOf 3 = 1 := by kernel_rfl
  have b1 : Tryz.prog.cellsOf 40 = 1 := by kernel_rfl
  have l1 : Tryz.prog.cellsOf 41 = 1 := by kernel_rfl
  have k1 : Tryz.prog.cellsOf 42 = 1 := by kernel_rfl
  have g0 : DataW.trod enc Tryz.prog W 0 (fun _ => true) true k 3 (List.take (Tryz.prog.cellsOf 3) (List.drop 0 cs)) = xs[0]? := hff 0 _ rfl
  have g1 : DataW.trod enc Tryz.prog W 0 (fun _ => true) true k 3 (List.take (Tryz.prog.cellsOf 3) (List.drop 1 cs)) = xs[1]? := hff 1 _ rfl
  have g2 : DataW.trod enc Tryz.prog W 0 (fun _ => true) true k 40 (List.take (Tryz.prog.cellsOf 40) (List.drop 2 cs)) = xs[2]? := hff 2 _ rfl
  have g3 : DataW.trod enc Tryz.prog W 0 (fun _ => true) true k 41 (List.take (Tryz.prog.cellsOf 41) (List.drop 3 cs)) = xs[3]? := hff 3 _ rfl
  have g4 : DataW.trod enc Tryz.prog W 0 (fun _ => true) true k 42 (List.take (Tryz.prog.cellsOf 42) (List.drop 4 cs)) = xs[4]? := hff 4 _ rfl
  rw [i1] at g0 g1
  rw [b1] at g2
  rw [l1] at g3
  rw [k1] at g4
  clear hff h
  have hxl5 : xs.length = 5 := hxl
  match cs, hlen, xs, hxl5 with
  | [v0, v1, v2, v3, v4], _, [y0, y1, y2, y3, y4], _ =>
    simp at g0 g1 g2 g3 g4
    obtain ⟨z0, e0, _⟩ := DataW.trod_int Tryz.underlying3 g0
    obtain ⟨z1, e1, _, w1⟩ := DataW.trod_int Tryz.underlying3 g1
    obtain ⟨a2, l2, c2, e2⟩ := sl_cell Tryz.underlying40 g2
    obtain ⟨a3, l3, c3, e3⟩ := sl_cell Tryz.underlying41 g3
    obtain ⟨a4, l4, c4, e4⟩ := sl_cell Tryz.underlying42 g4
    simp at e0 e1
    subst e0 e1 e2 e3 e4
    obtain ⟨xb, rb, wb⟩ := open_rd (d := y2.1) (p := y2.2) Tryz.underlying40 Tryz.underlying5 (by kernel_rfl) ⟨k, g2⟩
    obtain ⟨us, xl, rl, sl, _, bl⟩ := open_slices (d := y3.1) (p := y3.2) Tryz.underlying41 Tryz.underlying40 Tryz.underlying5 (by kernel_rfl) (by kernel_rfl) ⟨k, g3⟩
    obtain ⟨xk, rk, _⟩ := open_rd (d := y4.1) (p := y4.2) Tryz.underlying42 Tryz.underlying3 (by kernel_rfl) ⟨k, g4⟩
    have hbn := i64_bounds w1
    exact ⟨⟨z0, z1, a2, l2, c2, a3, l3, c3, a4, l4, c4, xb, us, xl, xk⟩, rfl, rb, rl, sl, rk, ⟨hbn.1, hbn.2⟩, by_of_wf wb, bl⟩

theorem open_tvs {H : Type} {enc : TypeId × Value → H} {W : World} {a : Option Addr} {len cap : Nat} {d : DataW H} {pl : List MemPlace}
    (h : DataW.Trod enc Tryz.prog W 0 (fun _ => true) true 22 (.slice a len cap) d pl) : ∃ ls, RdT W a len ls := by
  obtain ⟨fuel, hf⟩ := h
  have hce : Tryz.prog.cellsOf 44 = 5 := by kernel_rfl
  rcases Deep.open_slice Tryz.underlying22 hf with ⟨hcs, _⟩ | ⟨ad, l, c, m, n, D, Pl, hcs, _, hl, hm, hmm, hxe, hx⟩
  · injection hcs with hcs
    injection hcs with e1 e2 e3
    subst e1 e2 e3
    exact ⟨[], rfl, fun h => absurd h (Nat.lt_irrefl _), fun j hj => absurd hj (Nat.not_lt_zero _)⟩
  · injection hcs with hcs
    injection hcs with e1 e2 e3
    subst e1 e2 e3
    simp only [if_true] at hmm
    subst hmm
    have each : ∀ i, i < m → ∃ z : Tv, W.cell? (ad.add (i * 5)) = some (.int .i64 z.op) ∧ W.cell? (ad.add (i * 5 + 1)) = some (.int .i64 z.n) ∧ W.cell? (ad.add (i * 5 + 2)) = some (.slice z.bq z.bl z.bc) ∧ W.cell? (ad.add (i * 5 + 3)) = some (.slice z.lq z.ll z.lc) ∧ W.cell? (ad.add (i * 5 + 4)) = some (.slice z.kq z.kl z.kc) ∧ z.rd W := by
      intro i hi
      obtain ⟨cs', h1, h2⟩ := hx i hi
      rw [hce] at h1
      obtain ⟨_, hlen, hcell⟩ := World.cells?_some h1
      obtain ⟨z, e, hr⟩ := five_tv hlen h2
      subst e
      have q0 := hcell 0 (by omega)
      have q1 := hcell 1 (by omega)
      have q2 := hcell 2 (by omega)
      have q3 := hcell 3 (by omega)
      have q4 := hcell 4 (by omega)
      rw [Deep.add_add] at q0 q1 q2 q3 q4
      exact ⟨z, by simpa using q0, by simpa using q1, by simpa using q2, by simpa using q3, by simpa using q4, hr⟩
    obtain ⟨f, hfv⟩ := @Deep.choose_lt Tv ⟨.z0⟩ _ _ each
    have e : ∀ i, i < len → ((List.range len).map f).getD i .z0 = f i := fun i hi => by rw [List.getD_eq_getElem?_getD, List.getElem?_map, List.getElem?_range hi]; rfl
    refine ⟨(List.range len).map f, by simp, fun hn => ?_, fun j hj => by rw [e j hj]; exact (hfv j (by omega)).2.2.2.2.2⟩
    obtain ⟨b, o, spot⟩ := ad
    have h0 := (hfv 0 (by omega)).1
    have hspot : spot = none := by simpa [Addr.add] using World.cell?_spot h0
    subst hspot
    refine ⟨b, o, rfl, fun i hi => ?_⟩
    obtain ⟨k0, k1, k2, k3, k4, _⟩ := hfv i (by omega)
    rw [Addr.add_lit] at k0 k1 k2 k3 k4
    rw [e i hi]
    exact ⟨k0, by rw [Nat.add_assoc]; exact k1, by rw [Nat.add_assoc]; exact k2, by rw [Nat.add_assoc]; exact k3, by rw [Nat.add_assoc]; exact k4⟩

end Go.Proofs.YtpjhadaiodnnaaaGreat.M
end

section
namespace Go.Proofs.YtpjhadaiodnnaaaGreat.M
open Go.ChangeShapes Go.WideShapes Go.ChangeAt Go.RowKit
set_option linter.unusedSimpArgs false

/-- Texts as values. -/
def txt (xs : List ByteArray) : List Value := xs.map .string

theorem txt_get {xs : List ByteArray} {k : Nat} (h : k < xs.length) : (txt xs).getD k undef = .string (xs.getD k ByteArray.empty) := by
  unfold txt
  simp [List.getD_eq_getElem?_getD, List.getElem?_eq_getElem h]

theorem take_snocB {l : List ByteArray} {k : Nat} (h : k < l.length) : l.take (k + 1) = l.take k ++ [l.getD k ByteArray.empty] := by
  rw [List.take_add_one, List.getElem?_eq_getElem h, List.getD_eq_getElem?_getD, List.getElem?_eq_getElem h]
  rfl

theorem bytes_ne {x y : ByteArray} (h : ¬ x = y) : (x.toList == y.toList) = false := by
  rw [ByteArray.toList_eq, ByteArray.toList_eq]
  exact beq_false_of_ne fun e => h (ByteArray.ext (Array.toList_inj.1 e))

/-- Whether texts are the same. -/
def sameT (xs ys : List ByteArray) : Bool := decide (xs = ys)

theorem sameT_yes {xs ys : List ByteArray} (h : xs = ys) : sameT xs ys = true := decide_eq_true h
theorem sameT_no {xs ys : List ByteArray} (h : xs ≠ ys) : sameT xs ys = false := decide_eq_false h

set_option maxRecDepth 20000 in
set_option maxHeartbeats 2000000 in
theorem eqStr_any (p q : Option Addr) (n c m d : Nat) (xs ys : List ByteArray) (w : World) (hx : RdV w p n c (txt xs)) (hy : RdV w q m d (txt ys)) (hn : n ≤ 1099511627776) (hm : m ≤ 1099511627776) : Calls Tryz.prog 27 #[.slice p n c, .slice q m d] w fun e w' => e = .returned (.bool (sameT xs ys)) ∧ Below w.heap.size w w' := by
  have hlx : xs.length = n := by have := hx.len; unfold txt at this; simpa using this
  have hly : ys.length = m := by have := hy.len; unfold txt at this; simpa using this
  by_cases hnm : n = m
  · subst hnm
    have HLX : Hid (xs.length = n) := hlx
    have HLY : Hid (ys.length = n) := hly
    have HX : Hid (RdV w p n c (txt xs)) := hx
    have HY : Hid (RdV w q n d (txt ys)) := hy
    clear hx hy hlx hly hm
    go_enter Tryz.func27, Tryz.ntmps27
    go_wp2_with fail
    go_loopw [13] (fun i wr => ∃ k : Nat, k ≤ n ∧ i = .int .i64 k ∧ Hid (xs.take k = ys.take k) ∧ Below w.heap.size w wr) (fun i _ => n - (intOf i).toNat)
    case atStart => exact ⟨0, Nat.zero_le _, rfl, rfl, Below.refl _ _⟩
    case round =>
      obtain ⟨k, hk, rfl, HE, hb⟩ := hrel
      by_cases h : k < n
      · have hki : (k : Int) < (n : Int) := by omega
        obtain ⟨b, o, rfl, hc⟩ := HX.out.cells (by omega)
        obtain ⟨b2, o2, rfl, hc2⟩ := HY.out.cells (by omega)
        have h1 := hc k h
        have h2 := hc2 k h
        rw [txt_get (by rw [HLX.out]; exact h)] at h1
        rw [txt_get (by rw [HLY.out]; exact h)] at h2
        obtain ⟨x, Hx⟩ : ∃ z, Hid (z = xs.getD k ByteArray.empty) := ⟨_, rfl⟩
        obtain ⟨y, Hy⟩ : ∃ z, Hid (z = ys.getD k ByteArray.empty) := ⟨_, rfl⟩
        rw [← Hx.out] at h1
        rw [← Hy.out] at h2
        have h1' := cell_below hb h1
        have h2' := cell_below hb h2
        have hbd : Below w.heap.size w wr.drew := hb.drew
        have HB : Hid (Below w.heap.size w wr.drew) := hbd
        have HB0 : Hid (Below w.heap.size w wr) := hb
        clear hc hc2 h1 h2 hb hbd
        by_cases hxy : x = y
        · have HN : Hid (xs.take (k + 1) = ys.take (k + 1)) := by
            show _ = _
            rw [take_snocB (by rw [HLX.out]; exact h), take_snocB (by rw [HLY.out]; exact h), HE.out, ← Hx.out, ← Hy.out, hxy]
          subst hxy
          go_wp2_with fail
          go_region
          all_goals
            go_wp2_with fail
            go_roundw
            case rel => exact ⟨k + 1, by omega, by go_num, HN, by first | exact HB.out | exact HB0.out⟩
            case measure => simp [intOf]; omega
        · have hne : (x.toList == y.toList) = false := bytes_ne hxy
          have HN : Hid (sameT xs ys = false) := sameT_no (fun e => hxy (by rw [Hx.out, Hy.out, e]))
          go_wp2_with fail
          go_region
          all_goals
            go_wp2_with fail
            go_ret
            exact ⟨by rw [HN.out]; rfl, by first | exact HB.out | exact HB0.out⟩
      · obtain rfl : k = n := by omega
        have HS : Hid (sameT xs ys = true) := sameT_yes (by
          have := HE.out
          rw [List.take_of_length_le (by rw [HLX.out]; exact Nat.le_refl _), List.take_of_length_le (by rw [HLY.out]; exact Nat.le_refl _)] at this
          exact this)
        go_wp2_with fail
        go_ret
        exact ⟨by rw [HS.out]; rfl, hb⟩
  · have HS : Hid (sameT xs ys = false) := sameT_no (fun e => hnm (by rw [← hlx, ← hly, e]))
    have hne : ((n : Int) != (m : Int)) = true := by simpa using (show ¬ (n : Int) = (m : Int) by omega)
    clear hx hy hlx hly hnm
    go_enter Tryz.func27, Tryz.ntmps27
    go_wp2_with fail
    go_ret
    exact ⟨by rw [HS.out]; rfl, Below.refl _ _⟩

end Go.Proofs.YtpjhadaiodnnaaaGreat.M
end

section
namespace Go.Proofs.YtpjhadaiodnnaaaGreat.M
open Go.ChangeShapes Go.WideShapes Go.ChangeAt Go.RowKit
set_option linter.unusedSimpArgs false

theorem Crash_S (w : World) (L a g gt : Nat) (m : PD) (t : TP) (hT : TSt w L a g gt m t) (hm : Good m) :
    Calls Tryz.prog 17 #[.pointer (some ⟨g, 0, none⟩), .slice none 0 0] w fun e w' => e = .returned (.int .i64 0) ∧ DSt w' L a g (m.fall []) ∧ Below L w w' := by
  obtain ⟨own, d, pb, nb, cb, pr, cr, vs, hD, hB, hgt⟩ := hT
  refine (Crash_gen w L own a g d m hD.da hm.r0 hm.up hm.few none 0 0 [] (Rd.empty _ _ _ _ (fun _ => rfl)) (fun x e => by cases e) (by decide)).mono ?_
  rintro e w' ⟨rfl, d2, h1, h2⟩
  exact ⟨rfl, ⟨own, d2, hD.mv h1 h2.size (fun _ _ => rfl)⟩, h2.lowL hD.lw fun k hk e => hD.no hgt hk (i := 0) (Or.inl e)⟩

theorem Start_S (w : World) (L a g : Nat) (m : PD) (hT : DSt w L a g m) (hr : 0 < m.room) :
    Calls Tryz.prog 23 #[.pointer (some ⟨g, 0, none⟩)] w fun e w' => e = .returned (.int .i64 0) ∧ DSt w' L a g { m with down := false } ∧ Below L w w' := by
  obtain ⟨own, d, hD⟩ := hT
  refine (Start_ok w L own a g d m hD.da hr).mono ?_
  rintro e w' ⟨rfl, h1, h2⟩
  exact ⟨rfl, ⟨own, _, hD.mv h1 h2.size (fun _ _ => rfl)⟩, h2.lowL hD.lw fun k hk e => by have := hD.lg; have e2 : k = g := e; omega⟩

/-- A byte slice that a constant text became. -/
theorem rd_byte (w : World) (x : Int) : Rd .u8 (w.alloc (.cells #[.int .u8 x] 5 (1, 2))) (some ⟨w.heap.size, 0, none⟩) 1 1 [x] := by
  have hrow : (w.alloc (.cells #[.int .u8 x] 5 (1, 2))).heap[w.heap.size]? = some (.cells #[.int .u8 x] 5 (1, 2)) := heap_alloc_new _ _
  refine ⟨rfl, Nat.le_refl _, (fun e => by cases e), fun _ => ⟨_, 0, rfl, fun i hi => ?_⟩⟩
  unfold World.cell?
  dsimp only
  rw [hrow]
  match i, hi with
  | 0, _ => rfl

/-- One text in a slice. -/
theorem rdv_one (w : World) (x : ByteArray) : RdV (w.alloc (.cells #[.string x] 9)) (some ⟨w.heap.size, 0, none⟩) 1 1 (txt [x]) := by
  refine ⟨rfl, Nat.le_refl _, (fun e => by cases e), fun _ => ⟨_, 0, rfl, fun i hi => ?_⟩⟩
  match i, hi with
  | 0, _ => simp [txt]

def mq0 : PD := pd0 2097152
def mq1 : PD := svM mq0 0 ⟨1, [], []⟩
def mq2 : PD := { mq1 with f := upP mq1.f 0 { mq1.f 0 with told := (mq1.f 0).told ++ sealL [97] } }
def mq3 : PD := { mq2 with f := upP mq2.f 0 ⟨(mq2.f 0).told, (mq2.f 0).told, false⟩ }
def mq4 : PD := { mq3 with f := upP mq3.f 0 { mq3.f 0 with told := (mq3.f 0).told ++ sealL [98] } }
def mq6 : PD := { mq4.fall [] with down := false }

theorem good0 : Good mq0 := ⟨by decide, by decide, rfl, ⟨by decide +kernel, by decide +kernel, by decide +kernel, by decide +kernel⟩, rfl⟩
theorem good1 : Good mq1 := ⟨by decide, by decide, rfl, ⟨by decide +kernel, by decide +kernel, by decide +kernel, by decide +kernel⟩, rfl⟩
theorem good2 : Good mq2 := ⟨by decide, by decide, rfl, ⟨by decide +kernel, by decide +kernel, by decide +kernel, by decide +kernel⟩, rfl⟩
theorem good3 : Good mq3 := ⟨by decide, by decide, rfl, ⟨by decide +kernel, by decide +kernel, by decide +kernel, by decide +kernel⟩, rfl⟩
theorem good4 : Good mq4 := ⟨by decide, by decide, rfl, ⟨by decide +kernel, by decide +kernel, by decide +kernel, by decide +kernel⟩, rfl⟩
theorem good6 : Good mq6 := ⟨by decide, by decide, rfl, ⟨by decide +kernel, by decide +kernel, by decide +kernel, by decide +kernel⟩, rfl⟩

theorem sc0 : scT (fun i => (mq0.f i).told) 2 = (1, .z0, false) := by kernel_rfl
theorem sc6 : scT (fun i => (mq6.f i).told) 2 = (0, ⟨1, [], [[97]]⟩, true) := by kernel_rfl

theorem by6 : ∀ i, i < 2 → By (mq6.f i).told := by
  unfold By
  decide +kernel

theorem rok (gen : Int) (hg : 0 ≤ gen ∧ gen ≤ 1099511627776) (recs : List (List Int)) (hl : recs.length ≤ 1) (h : ∀ i, i < recs.length → By (recs.getD i []) ∧ (recs.getD i []).length ≤ 8192) : PR.ok ⟨gen, [], recs⟩ := ⟨hg, ⟨Nat.zero_le _, By.nil⟩, Nat.le_trans hl (by decide), h⟩

set_option maxRecDepth 20000 in
set_option maxHeartbeats 2000000 in
theorem begun_any (w : World) : Calls Tryz.prog 25 #[] w fun e w' => ∃ g gt, e = .returned (.tuple #[.pointer (some ⟨g, 0, none⟩), .pointer (some ⟨gt, 0, none⟩), .bool true]) ∧ TSo w' w.heap.size 0 g gt mq1 ⟨0, 0, ⟨1, [], []⟩⟩ ∧ Below w.heap.size w w' := by
  have hN := New_ok w 0 2097152 (by decide) (by decide)
  go_enter Tryz.func25, Tryz.ntmps25
  go_wp2_with fail
  refine hN.mono ?_
  rintro e w1 ⟨rfl, h1, hb1⟩
  clear hN
  have hD : DSt w1 w.heap.size 0 w.heap.size mq0 := ⟨_, _, h1, hb1.size, Nat.le_refl _, fun _ _ => rfl⟩
  have hO := TOpen_S w1 w.heap.size 0 w.heap.size mq0 (by decide) hD good0 1 .z0 false sc0 (fun i _ => By.nil) (Nat.le_refl _) (rok 0 (by decide) [] (by decide) (fun _ h => absurd h (Nat.not_lt_zero _))) (by decide) (fun _ => by decide +kernel)
  have HB1 : Hid (Below w.heap.size w w1) := hb1
  clear h1 hb1 hD
  obtain ⟨g, HG⟩ : ∃ z, Hid (z = w.heap.size) := ⟨_, rfl⟩
  have HO : Hid (Calls Tryz.prog 8 #[.pointer (some ⟨g, 0, none⟩)] w1 fun e w' => (∃ gt, e = .returned (.tuple #[.pointer (some ⟨gt, 0, none⟩), .int .i64 0]) ∧ TSo w' w.heap.size 0 g gt mq1 ⟨0, 0, ⟨1, [], []⟩⟩) ∧ Below w.heap.size w1 w') := by
    show Calls _ _ _ _ _
    rw [HG.out]
    refine hO.mono ?_
    rintro e w' ⟨⟨gt, rfl, h | h⟩, hb⟩
    · exact absurd h.1 (by decide)
    · exact ⟨⟨gt, rfl, h.2⟩, hb⟩
  clear hO
  rw [← HG.out]
  go_wp2_with fail
  refine HO.out.mono ?_
  rintro e w2 ⟨⟨gt, rfl, hT⟩, hb2⟩
  have HB2 : Hid (Below w.heap.size w w2) := HB1.out.trans hb2
  clear hb2
  go_wp2_with fail
  go_ret3
  exact ⟨g, gt, rfl, hT, HB2.out⟩

/-- Put of one byte that a constant text became. -/
theorem aw_put (w : World) (L g gt : Nat) (m m' : PD) (t t' : TP) (x : Int) (hx : 0 ≤ x ∧ x < 256) (hT : TSo w L 0 g gt m t) (hm : Good m) (hf : t.file ≤ 1) (hc : t.r.recs.length < 1000000) (hr : m.used + (sealL [x]).length ≤ m.room) (hm' : { m with f := upP m.f t.file { m.f t.file with told := (m.f t.file).told ++ sealL [x] } } = m') (ht' : ⟨t.file, t.kept, ⟨t.r.gen, t.r.base, t.r.recs ++ [[x]]⟩⟩ = t') :
    Calls Tryz.prog 21 #[.pointer (some ⟨gt, 0, none⟩), .slice (some ⟨w.heap.size, 0, none⟩) 1 1] (w.alloc (.cells #[.int .u8 x] 5 (1, 2))) fun e w' => e = .returned (.int .i64 0) ∧ TSo w' L 0 g gt m' t' ∧ Below L w w' := by
  have hL : L ≤ w.heap.size := by obtain ⟨_, _, _, _, _, _, _, _, _, h, _⟩ := hT; exact h.lw
  refine (TPut_S w _ L 0 g gt m t (by decide) hT (below_alloc w _) hm hf hc _ 1 1 [x] (rd_byte w x) (By.cons hx By.nil) (by decide) (fun z e _ => by cases e; exact Or.inl (Nat.le_refl _)) hr).mono ?_
  rintro e w' ⟨rfl, h1, h2⟩
  rw [hm', ht'] at h1
  exact ⟨rfl, h1, ((below_alloc w _).mono hL).trans h2⟩

theorem x_str (p : Option Addr) (c : Nat) (w : World) (h : Rd .u8 w p 1 c [120]) : (convert 40 9 (.slice p 1 c)).run Tryz.prog w = .ok (.string ⟨#[120]⟩) w := by
  rw [h.str]
  rfl

set_option maxRecDepth 20000 in
set_option maxHeartbeats 4000000 in
theorem awake_any (w : World) : Calls Tryz.prog 5 #[] w fun e w' => e = .returned (.bool true) ∧ Below w.heap.size w w' := by
  have hN := begun_any w
  have hcv := fun (w : World) (C : Array Value) (n c : Nat) => Lib.run_convert_bytes_const (P := Tryz.prog) w 40 5 C n c Tryz.underlying40 Tryz.underlying5
  obtain ⟨L, HL⟩ : ∃ z, Hid (z = w.heap.size) := ⟨_, rfl⟩
  rw [← HL.out] at hN ⊢
  go_enter Tryz.func5, Tryz.ntmps5
  go_wp2_with fail
  refine hN.mono ?_
  rintro e w1 ⟨g, gt, rfl, T1, hb1⟩
  clear hN
  have HB1 : Hid (Below L w w1) := hb1
  have hP := aw_put w1 L g gt mq1 mq2 ⟨0, 0, ⟨1, [], []⟩⟩ ⟨0, 0, ⟨1, [], [[97]]⟩⟩ 97 (by decide) T1 good1 (by decide) (by decide) (by decide +kernel) rfl rfl
  clear hb1 T1
  go_wp2_with fail
  refine hP.mono ?_
  rintro e w2 ⟨rfl, T2, hb2⟩
  clear hP
  have HB2 : Hid (Below L w w2) := HB1.out.trans hb2
  have hS := TSync_S w2 L 0 g gt mq2 _ (by decide) T2 good2 (by decide)
  clear hb2 T2
  go_wp2_with fail
  refine hS.mono ?_
  rintro e w3 ⟨rfl, T3, hb3⟩
  clear hS
  have HB3 : Hid (Below L w w3) := HB2.out.trans hb3
  have hP := aw_put w3 L g gt mq3 mq4 ⟨0, 1, ⟨1, [], [[97]]⟩⟩ ⟨0, 1, ⟨1, [], [[97], [98]]⟩⟩ 98 (by decide) T3 good3 (by decide) (by decide) (by decide +kernel) rfl rfl
  clear hb3 T3
  go_wp2_with fail
  refine hP.mono ?_
  rintro e w4 ⟨rfl, T4, hb4⟩
  clear hP
  have HB4 : Hid (Below L w w4) := HB3.out.trans hb4
  have HT4 : Hid (TSo w4 L 0 g gt mq4 ⟨0, 1, ⟨1, [], [[97], [98]]⟩⟩) := T4
  have hK : Calls Tryz.prog 26 #[.pointer (some ⟨gt, 0, none⟩)] w4 fun e w' => e = .returned (.int .i64 1) ∧ Below w4.heap.size w4 w' := by
    obtain ⟨own, d, pb, nb, cb, pr, cr, vs, Bv, hD, hB, hgt, hO, hBv⟩ := T4
    exact TKept_ok w4 gt g 1 (hB.blk.cell 0) (hB.blk.cell 2)
  clear hb4 T4
  go_wp2_with fail
  refine hK.mono ?_
  rintro e w5 ⟨rfl, hb5⟩
  clear hK
  have HB5 : Hid (Below L w w5) := HB4.out.trans (hb5.mono (Nat.le_trans (by rw [HL.out]; exact Nat.le_refl _) HB4.out.size))
  have hC := Crash_S w5 L 0 g gt mq4 _ (HT4.out.below hb5).t good4
  clear hb5
  go_wp2_with fail
  refine hC.mono ?_
  rintro e w6 ⟨rfl, D6, hb6⟩
  clear hC
  have HB6 : Hid (Below L w w6) := HB5.out.trans hb6
  have hC := Start_S w6 L 0 g _ D6 (by decide)
  clear hb6 D6
  go_wp2_with fail
  refine hC.mono ?_
  rintro e w7 ⟨rfl, D7, hb7⟩
  clear hC
  have HB7 : Hid (Below L w w7) := HB6.out.trans hb7
  have hO := TOpen_S w7 L 0 g mq6 (by decide) D7 good6 0 ⟨1, [], [[97]]⟩ true sc6 by6 (by decide) (rok 1 (by decide) [[97]] (by decide) (by unfold By; decide)) (by decide) (fun h => by cases h)
  have HO : Hid (Calls Tryz.prog 8 #[.pointer (some ⟨g, 0, none⟩)] w7 fun e w' => (∃ gt, e = .returned (.tuple #[.pointer (some ⟨gt, 0, none⟩), .int .i64 0]) ∧ TSt w' L 0 g gt mq6 ⟨0, 1, ⟨1, [], [[97]]⟩⟩) ∧ Below L w7 w') := by
    show Calls _ _ _ _ _
    refine hO.mono ?_
    rintro e w' ⟨⟨gt, rfl, h | h⟩, hb⟩
    · exact ⟨⟨gt, rfl, h.2.t⟩, hb⟩
    · exact absurd h.1 (by decide)
  clear hO hb7 D7
  go_wp2_with fail
  refine HO.out.mono ?_
  rintro e w8 ⟨⟨gu, rfl, T8⟩, hb8⟩
  have HB8 : Hid (Below L w w8) := HB7.out.trans hb8
  have HT8 : Hid (TSt w8 L 0 g gu mq6 ⟨0, 1, ⟨1, [], [[97]]⟩⟩) := T8
  have hR : Calls Tryz.prog 28 #[.pointer (some ⟨gu, 0, none⟩)] w8 fun e w' => (∃ p' c', e = .returned (.slice p' 1 c') ∧ OwV 9 w' w8.heap.size p' 1 c' (strs [[97]])) ∧ Below w8.heap.size w8 w' := by
    obtain ⟨own, d, pb, nb, cb, pr, cr, vs, hD, hB, hgt⟩ := T8
    exact records_any w8 gu g pr 1 cr vs [[97]] (hB.blk.cell 0) (hB.blk.cell 5) hB.rcs hB.sls rfl (by decide) (by decide)
  clear hb8 T8 HO
  go_wp2_with fail
  refine hR.mono ?_
  rintro e w9 ⟨⟨p9, c9, rfl, hO9⟩, hb9⟩
  clear hR
  have hE := eqStr_any p9 (some ⟨w9.heap.size, 0, none⟩) 1 c9 1 1 [⟨#[97]⟩] [⟨#[97]⟩] (w9.alloc (.cells #[.string ⟨#[97]⟩] 9)) ((hO9.rd).below (below_alloc w9 _)) (rdv_one w9 _) (by decide) (by decide)
  have hbA := below_alloc w9 (.cells #[.string ⟨#[97]⟩] 9)
  have HT9 : Hid (TSt (w9.alloc (.cells #[.string ⟨#[97]⟩] 9)) L 0 g gu mq6 ⟨0, 1, ⟨1, [], [[97]]⟩⟩) := (HT8.out.below hb9).below hbA
  have hLe : L ≤ w8.heap.size := Nat.le_trans (by rw [HL.out]; exact Nat.le_refl _) HB8.out.size
  have HB9 : Hid (Below L w (w9.alloc (.cells #[.string ⟨#[97]⟩] 9))) := HB8.out.trans ((hb9.mono hLe).trans (hbA.mono (Nat.le_trans hLe hb9.size)))
  rw [sameT_yes rfl] at hE
  clear hO9 hb9 hbA hLe
  go_wp2_with fail
  refine hE.mono ?_
  rintro e w10 ⟨rfl, hb10⟩
  clear hE
  have hLe : L ≤ (w9.alloc (.cells #[.string ⟨#[97]⟩] 9)).heap.size := Nat.le_trans (by rw [HL.out]; exact Nat.le_refl _) HB9.out.size
  have hbA := below_alloc w10 (.cells #[.int .u8 120] 5 (1, 2))
  have HB11 : Hid (Below L w (w10.alloc (.cells #[.int .u8 120] 5 (1, 2)))) := HB9.out.trans ((hb10.mono hLe).trans (hbA.mono (Nat.le_trans hLe hb10.size)))
  have hS := Save_S (w10.alloc (.cells #[.int .u8 120] 5 (1, 2))) L 0 g gu mq6 _ (by decide) ((HT9.out.below hb10).below hbA) good6 (by decide) (by decide) _ 1 1 [120] (rd_byte w10 120) (By.cons (by decide) By.nil) (by decide) none 0 0 [] [] ⟨rfl, Nat.le_refl _, fun _ => rfl, fun h => absurd h (Nat.lt_irrefl _)⟩ (Sls.nil _) rfl (by decide) (fun _ h => absurd h (Nat.not_lt_zero _)) (by decide +kernel)
  clear hb10 hLe hbA
  go_wp2_with fail
  refine hS.mono ?_
  rintro e w12 ⟨rfl, T12, hb12⟩
  clear hS
  have HB12 : Hid (Below L w w12) := HB11.out.trans hb12
  have HK : Hid (∃ pb cb pr cr, w12.cell? ⟨gu, 0, none⟩ = some (.pointer (some ⟨g, 0, none⟩)) ∧ w12.cell? ⟨gu, 4, none⟩ = some (.slice pb 1 cb) ∧ Rd .u8 w12 pb 1 cb [120] ∧ w12.cell? ⟨gu, 5, none⟩ = some (.slice pr 0 cr)) := by
    obtain ⟨own, d, pb, nb, cb, pr, cr, vs, Bv, hD, hB, hgt, hO, hBv⟩ := T12
    obtain rfl : 1 = nb := hB.bas.len
    exact ⟨pb, cb, pr, cr, hB.blk.cell 0, hB.blk.cell 4, hB.bas, hB.blk.cell 5⟩
  clear hb12 T12
  obtain ⟨pb, cb, pr, cr, c0, c4, hbs, c5⟩ := HK.out
  have hBs := TBase_ok w12 gu g pb 1 cb [120] c0 c4 hbs (by decide)
  have HC : Hid (w12.cell? ⟨gu, 0, none⟩ = some (.pointer (some ⟨g, 0, none⟩)) ∧ w12.cell? ⟨gu, 5, none⟩ = some (.slice pr 0 cr)) := ⟨c0, c5⟩
  clear HK c0 c4 hbs c5
  go_wp2_with fail
  refine hBs.mono ?_
  rintro e w13 ⟨⟨p13, c13, rfl, hO13⟩, hb13⟩
  clear hBs
  have hst := x_str p13 c13 w13 hO13.rd
  have hL := TLen_ok w13 gu g pr 0 cr (cell_below hb13 HC.out.1) (cell_below hb13 HC.out.2)
  have hLe : L ≤ w12.heap.size := Nat.le_trans (by rw [HL.out]; exact Nat.le_refl _) HB12.out.size
  have HB13 : Hid (Below L w w13) := HB12.out.trans (hb13.mono hLe)
  have HL13 : Hid (L ≤ w13.heap.size) := Nat.le_trans hLe hb13.size
  clear hb13 hO13 hLe
  go_wp2_with fail
  refine hL.mono ?_
  rintro e w14 ⟨rfl, hb14⟩
  clear hL hst
  have HB14 : Hid (Below L w w14) := HB13.out.trans (hb14.mono HL13.out)
  clear hb14
  go_wp2_with fail
  go_ret
  exact ⟨rfl, HB14.out⟩

end Go.Proofs.YtpjhadaiodnnaaaGreat.M
end

section
namespace Go.Proofs.YtpjhadaiodnnaaaGreat.M
open Go.ChangeShapes Go.WideShapes Go.ChangeAt Go.RowKit
set_option linter.unusedSimpArgs false

theorem Base_S (w : World) (L a g gt : Nat) (m : PD) (t : TP) (hT : TSo w L a g gt m t) (hl : t.r.base.length ≤ 1099511627776) :
    Calls Tryz.prog 29 #[.pointer (some ⟨gt, 0, none⟩)] w fun e w' => (∃ p' c', e = .returned (.slice p' t.r.base.length c') ∧ Rd .u8 w' p' t.r.base.length c' t.r.base ∧ (∀ x, p' = some x → 0 < t.r.base.length → w.heap.size ≤ x.block)) ∧ Below w.heap.size w w' := by
  obtain ⟨own, d, pb, nb, cb, pr, cr, vs, Bv, h1, h2, h3, h4, h5⟩ := hT
  have hn := h2.bas.len
  have hb := TBase_ok w gt g pb nb cb _ (h2.blk.cell 0) (h2.blk.cell 4) h2.bas (by omega)
  rw [← hn] at hb
  refine hb.mono ?_
  rintro e w' ⟨⟨p', c', rfl, hO⟩, hb⟩
  exact ⟨⟨p', c', rfl, hO.rd, fun x e h0 => (hO.ltC' x e h0).1⟩, hb⟩

theorem Recs_S (w : World) (L a g gt : Nat) (m : PD) (t : TP) (hT : TSo w L a g gt m t) (hfew : t.r.recs.length ≤ 1099511627776) (hrec : ∀ d ∈ t.r.recs, d.length ≤ 1099511627776) :
    Calls Tryz.prog 28 #[.pointer (some ⟨gt, 0, none⟩)] w fun e w' => (∃ p' c', e = .returned (.slice p' t.r.recs.length c') ∧ RdV w' p' t.r.recs.length c' (strs t.r.recs) ∧ (∀ x, p' = some x → 0 < t.r.recs.length → w.heap.size ≤ x.block)) ∧ Below w.heap.size w w' := by
  obtain ⟨own, d, pb, nb, cb, pr, cr, vs, Bv, h1, h2, h3, h4, h5⟩ := hT
  refine (records_any w gt g pr _ cr vs t.r.recs (h2.blk.cell 0) (h2.blk.cell 5) h2.rcs h2.sls rfl hfew (all_getD hrec)).mono ?_
  rintro e w' ⟨⟨p', c', rfl, hO⟩, hb⟩
  exact ⟨⟨p', c', rfl, hO.rd, fun x e h0 => (hO.ltC x e (Nat.lt_of_lt_of_le h0 hO.cap)).1⟩, hb⟩

/-- Texts of bytes. -/
def txb (xss : List (List Int)) : List ByteArray := xss.map strOfNums

theorem strs_txb (xss : List (List Int)) : strs xss = txt (txb xss) := by
  unfold strs txt txb
  rw [List.map_map]
  rfl

theorem sz_each {ls : List Tv} : ∀ k, szT ls k ≤ 16384 → ∀ j, j < k → (ls.getD j .z0).bl ≤ 16384 ∧ (ls.getD j .z0).kl ≤ 16384 ∧ (ls.getD j .z0).ll ≤ 4096
  | 0, _, _, h => absurd h (Nat.not_lt_zero _)
  | k + 1, h, j, hj => by
    have h' : szT ls k + (min (ls.getD k .z0).bl 16385 + min (ls.getD k .z0).kl 16385 + lsz (ls.getD k .z0).l (ls.getD k .z0).ll) ≤ 16384 := h
    by_cases e : j = k
    · subst e
      have := lsz_ge (ls.getD j .z0).l (ls.getD j .z0).ll
      omega
    · exact sz_each (ls := ls) k (by omega) j (by omega)

theorem tot_each {LL : List (List Tv)} : ∀ k, totT LL k ≤ 16384 → ∀ j, j < k → szT (LL.getD j []) (LL.getD j []).length ≤ 16384 ∧ (LL.getD j []).length ≤ cntT LL k
  | 0, _, _, h => absurd h (Nat.not_lt_zero _)
  | k + 1, h, j, hj => by
    have h' : totT LL k + szT (LL.getD k []) (LL.getD k []).length ≤ 16384 := h
    have e : cntT LL (k + 1) = cntT LL k + (LL.getD k []).length := rfl
    by_cases ej : j = k
    · subst ej; omega
    · have := tot_each (LL := LL) k (by omega) j (by omega)
      omega

theorem mq1_ok : mq1.ok 1000 := ⟨by decide, by decide, by decide +kernel, by decide +kernel, by decide +kernel, by decide +kernel⟩

theorem mq1_cal : Cal mq1 := ⟨rfl, rfl⟩

theorem mq1_liv : Liv mq1 ⟨0, 0, ⟨1, [], []⟩⟩ :=
  ⟨by decide, by decide, ⟨Nat.zero_le _, By.nil⟩, fun _ h => (by cases h), ⟨0, Nat.le_refl _, Nat.zero_le _, by kernel_rfl⟩, by
    show (ldR []).1.gen < 1
    rw [ldR_nil]
    decide, by unfold By; decide +kernel⟩

end Go.Proofs.YtpjhadaiodnnaaaGreat.M
end

section
namespace Go.Proofs.YtpjhadaiodnnaaaGreat.M
open Go.ChangeShapes Go.WideShapes Go.ChangeAt Go.RowKit

end Go.Proofs.YtpjhadaiodnnaaaGreat.M
end

section
namespace Go.Proofs.YtpjhadaiodnnaaaGreat.M
open Go.ChangeShapes Go.WideShapes Go.ChangeAt Go.RowKit
set_option linter.unusedSimpArgs false

theorem DA.chE {S : Nat → Prop} {w w' : World} {B : Nat} {own : Nat → Nat} {a g : Nat} {d : Dk} {m : PD} (h : DA w B own a g d m) (hc : Ch S w w') (hg : ¬ S g) (hs : ∀ i k, i < 8 → own k = mark a i → ¬ S k) (hk : m.keep = []) : DA w' B own a g d m :=
  ⟨h.dc.ch hc hg, h.room, h.down, h.left, h.cl, fun i hi => (h.fm i hi).ch hc (fun k => hs i k hi) (fun _ _ => rfl), by
    have h1 := h.keep
    have h0 : d.kn = 0 := by rw [← h1.len, hk]; rfl
    exact ⟨h1.len, h1.cap, h1.nil, fun hn => by omega⟩, h.og, fun x e => ⟨(h.ok x e).1, (h.ok x e).2.1, Nat.lt_of_lt_of_le (h.ok x e).2.2 hc.size⟩, h.bg, fun k hk => h.fr k (Nat.le_trans hc.size hk)⟩

/-- A tape and its disk, where only what is foreign to them changes. -/
theorem TSx.ch {S : Nat → Prop} {w w' : World} {L a g gt : Nat} {own : Nat → Nat} {m : PD} {t : TP} (h : TSx w L a g gt own m t) (hc : Ch S w w') (hk : m.keep = []) (hs : ∀ k, ¬ Fgn own g k → ¬ S k) : TSx w' L a g gt own m t := by
  obtain ⟨d, pb, nb, cb, pr, cr, vs, Bv, h1, h2, h3, h4, h5⟩ := h
  have hfar : ∀ k, Fre own g k → ¬ S k := fun k hf => hs k (fun e => by have := e.1; rw [hf.1] at this; cases this)
  have hD : DA w' L own a g d m := h1.da.chE hc (hs g (fun e => e.2 rfl)) (fun i k _ e => hs k (fun e2 => by rw [e2.1] at e; unfold mark at e; omega)) hk
  have hO : TO w' own Bv g gt t pb nb cb pr cr vs := h4.ch hc (fun k hf _ => hfar k hf) (fun _ _ e => e)
  exact ⟨d, pb, nb, cb, pr, cr, vs, Bv, ⟨hD, Nat.le_trans h1.lw hc.size, h1.lg, h1.low⟩, hO.tb (h2.blk.ch hc (hfar gt h2.fg)) h2.fg, h3, hO, Nat.le_trans h5 hc.size⟩

theorem allR_flat (xs : List Int) (hx : By xs) : (((allR xs).1.map sealL).flatten).length ≤ xs.length := by
  have key : ∀ f (ys : List Int), By ys → (((allF f ys).1.map sealL).flatten).length ≤ ys.length := by
    intro f
    induction f with
    | zero => intro ys _; exact Nat.zero_le _
    | succ f ih =>
      intro ys hy
      unfold allF
      by_cases h : (openR ys).2.2 = 0
      · rw [if_pos h]
        obtain ⟨d, rest, e1, _, _, e2⟩ := openR_form hy h
        have := ih (ys.drop (openR ys).2.1) (hy.drop _)
        rw [e1] at this ⊢
        dsimp only at this ⊢
        rw [List.length_drop] at this
        rw [List.map_cons, List.flatten_cons, List.length_append]
        have h3 : (sealL d).length ≤ ys.length := by rw [e2, List.length_append]; omega
        omega
      · rw [if_neg h]
        exact Nat.zero_le _
  exact key _ xs hx

theorem ldR_flat {xs : List Int} (h : By xs) : (((ldR xs).1.recs.map sealL).flatten).length ≤ xs.length := by
  unfold ldR
  by_cases h0 : (allR xs).1 = []
  · rw [if_pos h0]
    exact Nat.zero_le _
  · rw [if_neg h0]
    split
    · refine Nat.le_trans ?_ (allR_flat xs h)
      dsimp only
      cases hA : (allR xs).1 with
      | nil => exact absurd hA h0
      | cons x l =>
        rw [List.drop_one, List.tail_cons, List.map_cons, List.flatten_cons, List.length_append]
        omega
    · exact Nat.zero_le _

/-- Of the reel that counts: no file has a newer one; its records came out of a file. -/
theorem cnt_ge {m : PD} (h : ∀ i, i < 2 → By (m.f i).told) : (∀ i, i < 2 → (ldR (m.f i).told).1.gen ≤ (cnt m).2.1.gen) ∧ ∀ s, (∀ i, i < 2 → (m.f i).told.length ≤ s) → (((cnt m).2.1.recs.map sealL).flatten).length ≤ s := by
  have key : ∀ k, k ≤ 2 → (∀ i, i < k → (ldR (m.f i).told).1.gen ≤ (scT (fun i => (m.f i).told) k).2.1.gen) ∧ ∀ s, (∀ i, i < 2 → (m.f i).told.length ≤ s) → (((scT (fun i => (m.f i).told) k).2.1.recs.map sealL).flatten).length ≤ s := by
    intro k
    induction k with
    | zero => intro _; exact ⟨fun _ h => absurd h (Nat.not_lt_zero _), fun s _ => Nat.zero_le _⟩
    | succ k ih =>
      intro hk
      have ih := ih (by omega)
      rw [scT]
      split
      · rename_i hlt
        refine ⟨fun i hi => ?_, fun s hs => Nat.le_trans (ldR_flat (h k (by omega))) (hs k (by omega))⟩
        by_cases e : i = k
        · subst e; exact Int.le_refl _
        · have := ih.1 i (by omega)
          show _ ≤ (ldR (m.f k).told).1.gen
          omega
      · rename_i hlt
        refine ⟨fun i hi => ?_, ih.2⟩
        by_cases e : i = k
        · subst e; omega
        · exact ih.1 i (by omega)
  exact key 2 (Nat.le_refl _)

/-- A disk with at most so many bytes in its two first files, and none elsewhere. -/
structure Two (m : PD) (s : Nat) : Prop where
  lens : ∀ i, i < 2 → (m.f i).told.length ≤ s
  rest : ∀ i, 2 ≤ i → i < 8 → (m.f i).told.length = 0
  bys : ∀ i, i < 2 → By (m.f i).told

theorem used_two {m : PD} {s : Nat} (h : ∀ i, i < 2 → (m.f i).told.length ≤ s) (hr : ∀ i, 2 ≤ i → i < 8 → (m.f i).told.length = 0) : m.used ≤ 2 * s := by
  unfold PD.used
  have h0 := h 0 (by decide)
  have h1 := h 1 (by decide)
  have h2 := hr 2 (by decide) (by decide)
  have h3 := hr 3 (by decide) (by decide)
  have h4 := hr 4 (by decide) (by decide)
  have h5 := hr 5 (by decide) (by decide)
  have h6 := hr 6 (by decide) (by decide)
  have h7 := hr 7 (by decide) (by decide)
  omega

theorem fitsR_of {n : Nat} {recs : List (List Int)} (h1 : n ≤ 8176) (h2 : ∀ i, i < recs.length → (recs.getD i []).length ≤ 8192) : fitsR n recs = true := by
  unfold fitsR
  rw [decide_eq_true h1, Bool.true_and]
  exact shortV_yes h2

/-- What is opened: the range is at its end, or it is opened once more as the same. -/
theorem opM_again {m : PD} (hc : Cal m) (h : Two m 16384) (hroom : m.room = 2097152) :
    (opM m).1 = 5 ∨ ((opM m).1 = 0 ∧ cnt (opM m).2.1 = ((opM m).2.2.file, (opM m).2.2.r, true) ∧ (opM m).2.2.kept = (opM m).2.2.r.recs.length ∧ Cal (opM m).2.1 ∧ (∀ i, i < 2 → By ((opM m).2.1.f i).told) ∧ (opM m).2.2.r.fit ∧ (opM m).2.2.file ≤ 1 ∧ (opM m).2.2.r.recs.length ≤ 4096 ∧ (opM m).2.1.keep = m.keep ∧ (∀ s, m.ok s → (opM m).2.1.ok (s + 40000000))) := by
  obtain ⟨hf, hfit, hg40, hn5⟩ := cnt_fit h.bys
  obtain ⟨hge, hfl⟩ := cnt_ge h.bys
  have hn := hn5 16384 h.lens
  have hfl := hfl 16384 h.lens
  unfold opM
  by_cases hw : (cnt m).2.2 = true
  · rw [if_pos hw]
    refine Or.inr ⟨rfl, ?_, rfl, hc, h.bys, hfit, hf, by show (cnt m).2.1.recs.length ≤ 4096; omega, rfl, fun s hs => hs.mono (Nat.le_add_right _ _)⟩
    show cnt m = ((cnt m).1, (cnt m).2.1, true)
    rw [← hw]
  · rw [if_neg hw]
    unfold svT
    split
    · exact Or.inl rfl
    · rename_i h40
      have h40' : ¬ 1099511627776 ≤ (cnt m).2.1.gen := h40
      have hfb := fitsR_of hfit.base.1 (fun i hi => (hfit.recs i hi).2)
      rw [if_neg (by rw [hfb]; decide)]
      have hg0 := hfit.gen
      rcases hc.write (1 - (cnt m).1) (sealR ⟨(cnt m).2.1.gen + 1, (cnt m).2.1.base, (cnt m).2.1.recs⟩) with e | e
      · exfalso
        have h1 : (wrM m (1 - (cnt m).1) (sealR ⟨(cnt m).2.1.gen + 1, (cnt m).2.1.base, (cnt m).2.1.recs⟩)).2 = 7 := by rw [e]
        unfold wrM at h1
        rw [if_neg (by rw [hc.gone]; decide)] at h1
        rw [if_neg] at h1
        · have hcc : Cal (m.clearAt (1 - (cnt m).1)) := by rw [hc.clear]; exact hc.f _
          rw [if_neg (by rw [hcc.gone]; decide)] at h1
          have h2 : goneE (((m.clearAt (1 - (cnt m).1)).putAt (1 - (cnt m).1) (sealR ⟨(cnt m).2.1.gen + 1, (cnt m).2.1.base, (cnt m).2.1.recs⟩)).gone 1) = 7 := h1
          unfold goneE at h2
          split at h2
          · exact absurd h2 (by decide)
          · exact absurd h2 (by decide)
        · rw [hc.clear]
          show ¬ m.room < _
          have hu : ({ m with f := upP m.f (1 - (cnt m).1) ⟨[], (m.f (1 - (cnt m).1)).lasts, true⟩ } : PD).used ≤ 2 * 16384 := by
            refine used_two (fun i hi => ?_) (fun i h2 h8 => ?_)
            · show (upP m.f (1 - (cnt m).1) _ i).told.length ≤ _
              by_cases e2 : i = 1 - (cnt m).1
              · rw [e2, upP_same]; exact Nat.zero_le _
              · rw [up_other e2]; exact h.lens i hi
            · show (upP m.f (1 - (cnt m).1) _ i).told.length = 0
              rw [up_other (by omega)]
              exact h.rest i h2 h8
          have hs : (sealR ⟨(cnt m).2.1.gen + 1, (cnt m).2.1.base, (cnt m).2.1.recs⟩).length ≤ 8206 + 16384 := by
            unfold sealR
            rw [List.length_append, headR_hd]
            have h1 := sealL_len_le (hdR_ok (gen := ((cnt m).2.1.gen + 1).toNat) (ns := (cnt m).2.1.recs.length) (base := (cnt m).2.1.base) (by omega) (by omega) hfit.base).2
            show (sealL (hdR ((cnt m).2.1.gen + 1).toNat (cnt m).2.1.recs.length (cnt m).2.1.base)).length + (((cnt m).2.1.recs.map sealL).flatten).length ≤ _
            omega
          omega
      · rw [e]
        dsimp only
        rw [if_pos rfl]
        have hL : Liv { m with f := upP m.f (1 - (cnt m).1) ⟨sealR ⟨(cnt m).2.1.gen + 1, (cnt m).2.1.base, (cnt m).2.1.recs⟩, sealR ⟨(cnt m).2.1.gen + 1, (cnt m).2.1.base, (cnt m).2.1.recs⟩, false⟩ } ⟨1 - (cnt m).1, (cnt m).2.1.recs.length, ⟨(cnt m).2.1.gen + 1, (cnt m).2.1.base, (cnt m).2.1.recs⟩⟩ := by
          refine ⟨by show 1 - (cnt m).1 ≤ 1; omega, by show 1 ≤ (cnt m).2.1.gen + 1 ∧ (cnt m).2.1.gen + 1 ≤ 1099511627776; omega, hfit.base, fun d hd => getD_all (P := fun d => By d ∧ d.length ≤ 8192) hfit.recs d hd, ⟨(cnt m).2.1.recs.length, Nat.le_refl _, by omega, ?_⟩, ?_, fun i hi => ?_⟩
          · show (upP m.f (1 - (cnt m).1) _ (1 - (cnt m).1)).told = _
            rw [upP_same]
            exact sealR_file _
          · show (ldR (upP m.f (1 - (cnt m).1) _ (1 - (1 - (cnt m).1))).told).1.gen < (cnt m).2.1.gen + 1
            rw [show 1 - (1 - (cnt m).1) = (cnt m).1 by omega, up_other (by omega)]
            have := hge (cnt m).1 (by omega)
            omega
          · show By (upP m.f (1 - (cnt m).1) _ i).told
            by_cases e2 : i = 1 - (cnt m).1
            · rw [e2, upP_same]
              show By (sealR _)
              rw [sealR_file]
              exact fileR_by hfit.base.2 (fun d hd => (getD_all (P := fun d => By d ∧ d.length ≤ 8192) hfit.recs d hd).1)
            · rw [up_other e2]
              exact h.bys i hi
        refine Or.inr ⟨rfl, hL.cnt, rfl, hc.f _, hL.bys, ⟨by show 0 ≤ (cnt m).2.1.gen + 1; omega, hfit.base, hfit.recs⟩, by show 1 - (cnt m).1 ≤ 1; omega, by show (cnt m).2.1.recs.length ≤ 4096; omega, rfl, fun s hs => ?_⟩
        have hwo := wrM_ok hs (i := 1 - (cnt m).1) (by omega) (sealR ⟨(cnt m).2.1.gen + 1, (cnt m).2.1.base, (cnt m).2.1.recs⟩)
        rw [e] at hwo
        refine hwo.mono ?_
        have := sealR_len2 (r := ⟨(cnt m).2.1.gen + 1, (cnt m).2.1.base, (cnt m).2.1.recs⟩) hfit.base (by show 0 ≤ (cnt m).2.1.gen + 1 ∧ (cnt m).2.1.gen + 1 ≤ 1099511627776; omega) (by show (cnt m).2.1.recs.length ≤ 1000000; omega) (fun i hi => (hfit.recs i hi).2)
        have e3 : (sealR ⟨(cnt m).2.1.gen + 1, (cnt m).2.1.base, (cnt m).2.1.recs⟩).length ≤ 8206 * ((cnt m).2.1.recs.length + 1) := this
        omega

theorem Cal.ptk {m : PD} {t : TP} {xs : List Int} (h : Cal m) : (ptT m t xs).2.1.keep = m.keep ∧ Cal (ptT m t xs).2.1 := by
  unfold ptT
  split
  · exact ⟨rfl, h⟩
  · rcases h.put t.file (sealL xs) with e | e
    · rw [e]; exact ⟨rfl, h⟩
    · rw [e]; exact ⟨rfl, h.f _⟩

theorem ptT_file {m : PD} {t : TP} {xs : List Int} : (ptT m t xs).2.2.file = t.file ∧ (ptT m t xs).2.2.r.base = t.r.base ∧ (ptT m t xs).2.2.r.recs.length ≤ t.r.recs.length + 1 ∧ ((∀ d ∈ t.r.recs, d.length ≤ 8192) → ∀ d ∈ (ptT m t xs).2.2.r.recs, d.length ≤ 8192) := by
  unfold ptT
  split
  · exact ⟨rfl, rfl, Nat.le_succ _, fun h => h⟩
  · rename_i hl
    dsimp only
    split
    · refine ⟨rfl, rfl, by show (t.r.recs ++ [xs]).length ≤ _; rw [List.length_append]; exact Nat.le_refl _, fun h d hd => ?_⟩
      rcases List.mem_append.1 hd with hd | hd
      · exact h d hd
      · rw [List.mem_singleton] at hd
        rw [hd]
        omega
    · exact ⟨rfl, rfl, Nat.le_succ _, fun h => h⟩

/-- Two tapes beside one another. -/
structure Pr (w : World) (L L2 g gt gc gu : Nat) (o1 o2 : Nat → Nat) (m : PD) (t : TP) (m2 : PD) (t2 : TP) : Prop where
  t1 : TSx w L 0 g gt o1 m t
  t2 : TSx w L2 1 gc gu o2 m2 t2
  dis : ∀ k, Fgn o1 g k ∨ Fgn o2 gc k
  k1 : m.keep = []
  k2 : m2.keep = []

theorem Pr.below {w w' : World} {L L2 g gt gc gu : Nat} {o1 o2 : Nat → Nat} {m : PD} {t : TP} {m2 : PD} {t2 : TP} (h : Pr w L L2 g gt gc gu o1 o2 m t m2 t2) (hb : Below w.heap.size w w') : Pr w' L L2 g gt gc gu o1 o2 m t m2 t2 := ⟨h.t1.below hb, h.t2.below hb, h.dis, h.k1, h.k2⟩

theorem Pr.swap {w : World} {L L2 g gt gc gu : Nat} {o1 o2 : Nat → Nat} {m : PD} {t : TP} {m2 : PD} {t2 : TP} (h : Pr w L L2 g gt gc gu o1 o2 m t m2 t2) : ∀ k, Fgn o2 gc k ∨ Fgn o1 g k := fun k => (h.dis k).symm

/-- Put of the first one. -/
theorem Pr.put1 {w : World} {L L2 g gt gc gu : Nat} {o1 o2 : Nat → Nat} {m : PD} {t : TP} {m2 : PD} {t2 : TP} (h : Pr w L L2 g gt gc gu o1 o2 m t m2 t2) (s : Nat) (hc : Cal m) (ho : m.ok s) (hs : s ≤ 274877906944) (hf : t.file ≤ 1) (hn : t.r.recs.length < 1000000) (q : Option Addr) (n c : Nat) (xs : List Int) (hr : Rd .u8 w q n c xs) (hy : By xs) (hlow : ∀ x, q = some x → 0 < n → x.block < L) :
    Calls Tryz.prog 21 #[.pointer (some ⟨gt, 0, none⟩), .slice q n c] w fun e w' => e = .returned (.int .i64 (ptT m t xs).1) ∧ ∃ o1', Pr w' L L2 g gt gc gu o1' o2 (ptT m t xs).2.1 (ptT m t xs).2.2 m2 t2 ∧ Ch (fun k => ¬ Fgn o1 g k) w w' := by
  refine (Put_S w w L 0 g gt o1 m t s (by decide) h.t1 (Below.refl _ _) ⟨ho, hc.up⟩ hs hf hn q n c xs hr hy (fun x e h0 => h.t1.old (hlow x e h0))).mono ?_
  rintro e w' ⟨rfl, o1', h1, h2, h3⟩
  refine ⟨rfl, o1', ⟨h1, h.t2.ch h3 h.k2 (fun k hk e => (h.dis k).elim (fun h4 => e h4) hk), fun k => ?_, hc.ptk.1.trans h.k1, h.k2⟩, h3⟩
  rcases Nat.lt_or_ge k w.heap.size with hk | hk
  · exact (h.dis k).imp (fun h4 => h4.to hk h2) id
  · exact Or.inr (h.t2.new hk)

/-- Put of the second one. -/
theorem Pr.put2 {w : World} {L L2 g gt gc gu : Nat} {o1 o2 : Nat → Nat} {m : PD} {t : TP} {m2 : PD} {t2 : TP} (h : Pr w L L2 g gt gc gu o1 o2 m t m2 t2) (s : Nat) (hc : Cal m2) (ho : m2.ok s) (hs : s ≤ 274877906944) (hf : t2.file ≤ 1) (hn : t2.r.recs.length < 1000000) (q : Option Addr) (n c : Nat) (xs : List Int) (hr : Rd .u8 w q n c xs) (hy : By xs) (hlow : ∀ x, q = some x → 0 < n → x.block < L2) :
    Calls Tryz.prog 21 #[.pointer (some ⟨gu, 0, none⟩), .slice q n c] w fun e w' => e = .returned (.int .i64 (ptT m2 t2 xs).1) ∧ ∃ o2', Pr w' L L2 g gt gc gu o1 o2' m t (ptT m2 t2 xs).2.1 (ptT m2 t2 xs).2.2 ∧ Ch (fun k => ¬ Fgn o2 gc k) w w' := by
  refine (Put_S w w L2 1 gc gu o2 m2 t2 s (by decide) h.t2 (Below.refl _ _) ⟨ho, hc.up⟩ hs hf hn q n c xs hr hy (fun x e h0 => h.t2.old (hlow x e h0))).mono ?_
  rintro e w' ⟨rfl, o2', h1, h2, h3⟩
  refine ⟨rfl, o2', ⟨h.t1.ch h3 h.k1 (fun k hk e => (h.dis k).elim hk (fun h4 => e h4)), h1, fun k => ?_, h.k1, hc.ptk.1.trans h.k2⟩, h3⟩
  rcases Nat.lt_or_ge k w.heap.size with hk | hk
  · exact (h.dis k).imp id (fun h4 => h4.to hk h2)
  · exact Or.inl (h.t1.new hk)

/-- Open where what counts is whole, its marks told. -/
theorem Open_wx (w : World) (L a g : Nat) (own : Nat → Nat) (m : PD) (s : Nat) (hD : ∃ d, DS w L a g own d m) (hm : Fit m s) (hs : s ≤ 274877906944) (hBy : ∀ i, i < 2 → By (m.f i).told) (f : Nat) (r : PR) (hc : cnt m = (f, r, true)) :
    Calls Tryz.prog 8 #[.pointer (some ⟨g, 0, none⟩)] w fun e w' => ∃ gt own2, e = .returned (.tuple #[.pointer (some ⟨gt, 0, none⟩), .int .i64 0]) ∧ TSx w' L a g gt own2 m ⟨f, r.recs.length, r⟩ ∧ (∀ k, k < w.heap.size → own2 k = own k) ∧ Below w.heap.size w w' := by
  obtain ⟨d, hS⟩ := hD
  have hgl : g < w.heap.size := hS.da.dc.lt
  have hfw : m.few := hm.ok.few (by omega)
  have hc' : scT (fun i => (m.f i).told) 2 = (f, r, true) := hc
  refine (TOpen_gen w g (fun i => (m.f i).told) (fun wr hb i hi => Read_O wr L own a g d m (hS.da.below hb) hm.ok.r0 hm.up hfw i (by omega)) hBy (fun i hi => Nat.le_trans (hfw.told i (by omega)) (by decide)) (fun _ _ _ => False) (fun _ _ _ _ h _ => h) (fun hb => by rw [hc'] at hb; cases hb)).mono ?_
  rw [hc']
  rintro e w' (⟨hb, gt, pb, nb, cb, pr, cr, vs, rfl, hI⟩ | ⟨hb, _⟩)
  · exact ⟨gt, _, rfl, ⟨d, pb, nb, cb, pr, cr, vs, w.heap.size, hS.marked hI.hb, hI.tb hgl, by have := hI.ge; have := hS.lw; omega, hI.to hgl, hI.hb.size⟩, fun k hk => farO_low hk, hI.hb⟩
  · cases hb

end Go.Proofs.YtpjhadaiodnnaaaGreat.M
end

section
namespace Go.Proofs.YtpjhadaiodnnaaaGreat.M
open Go.ChangeShapes Go.WideShapes Go.ChangeAt Go.RowKit
set_option linter.unusedSimpArgs false

/-- Append onto a disk. -/
theorem DS.app {w : World} {L a g : Nat} {own : Nat → Nat} {d : Dk} {m : PD} {s : Nat} (h : DS w L a g own d m) (hm : Fit m s) (hs : s ≤ 274877906944) (i : Nat) (hi : i < 8) (q : Option Addr) (l c : Nat) (ys : List Int) (hy : Rd .u8 w q l c ys) (hlow : ∀ x, q = some x → 0 < l → x.block < L) (hl : l ≤ 274877906944) :
    Calls Tryz.prog 52 #[.pointer (some ⟨g, 0, none⟩), .int .i64 i, .slice q l c] w fun e w' => e = .returned (.int .i64 (ptM m i ys).2) ∧ (∃ own2 d2, DS w' L a g own2 d2 (ptM m i ys).1) ∧ Below L w w' := by
  refine (Append_any w L own a g d m s h.da hm hs h.lw i hi q l c ys hy (fun x e h0 => by have := hlow x e h0; have := h.lg; omega) hl).mono ?_
  rintro e w' ⟨rfl, own2, d2, h1, h2, h3⟩
  refine ⟨rfl, ⟨own2, d2, h1, Nat.le_trans h.lw h3.size, h.lg, fun k hk => (h2 k (Nat.lt_of_lt_of_le hk h.lw)).trans (h.low k hk)⟩, h3.lowL h.lw (fun k hk e => ?_)⟩
  rcases e with e | e
  · have := h.lg
    omega
  · rw [h.low k hk] at e
    unfold mark at e
    omega

theorem Cal.app {m : PD} (h : Cal m) (i : Nat) (bs : List Int) : Cal (ptM m i bs).1 ∧ (ptM m i bs).1.room = m.room ∧ (ptM m i bs).1.keep = m.keep ∧ (∀ j, j ≠ i → (ptM m i bs).1.f j = m.f j) ∧ (((ptM m i bs).1.f i).told = (m.f i).told ∨ ((ptM m i bs).1.f i).told = (m.f i).told ++ bs) := by
  rcases h.put i bs with e | e
  · rw [e]
    exact ⟨h, rfl, rfl, fun _ _ => rfl, Or.inl rfl⟩
  · rw [e]
    exact ⟨h.f _, rfl, rfl, fun j hj => up_other hj, Or.inr (by show (upP m.f i _ i).told = _; rw [upP_same])⟩

/-- The disk that the law begins with. -/
def agM (xs0 bs : List Int) : PD := (ptM (ptM mq0 0 xs0).1 1 bs).1

theorem mq0_ok : mq0.ok 0 := ⟨by decide, by decide, fun _ _ => Nat.le_refl _, fun _ _ => Nat.le_refl _, Nat.zero_le _, Nat.zero_le _⟩

theorem agM_ok {xs0 bs : List Int} (ha : xs0.length ≤ 16384) (hb : bs.length ≤ 16384) (h1 : By xs0) (h2 : By bs) : Two (agM xs0 bs) 16384 ∧ Cal (agM xs0 bs) ∧ (agM xs0 bs).room = 2097152 ∧ (agM xs0 bs).keep = [] ∧ (agM xs0 bs).ok 40000 ∧ Fit (ptM mq0 0 xs0).1 20000 := by
  have c0 : Cal mq0 := ⟨rfl, rfl⟩
  obtain ⟨a1, a2, a3, a4, a5⟩ := c0.app 0 xs0
  obtain ⟨b1, b2, b3, b4, b5⟩ := a1.app 1 bs
  have k1 := (ptM_ok mq0_ok (i := 0) (by decide) xs0).mono (show _ ≤ 20000 by omega)
  have k2 := (ptM_ok k1 (i := 1) (by decide) bs).mono (show _ ≤ 40000 by omega)
  have z : ∀ j, (mq0.f j).told = [] := fun _ => rfl
  have f0 : ((agM xs0 bs).f 0).told = [] ∨ ((agM xs0 bs).f 0).told = xs0 := by
    show ((ptM (ptM mq0 0 xs0).1 1 bs).1.f 0).told = [] ∨ ((ptM (ptM mq0 0 xs0).1 1 bs).1.f 0).told = xs0
    rw [b4 0 (by decide)]
    rw [z 0] at a5
    exact a5
  have f1 : ((agM xs0 bs).f 1).told = [] ∨ ((agM xs0 bs).f 1).told = bs := by
    show ((ptM (ptM mq0 0 xs0).1 1 bs).1.f 1).told = [] ∨ ((ptM (ptM mq0 0 xs0).1 1 bs).1.f 1).told = bs
    rw [a4 1 (by decide), z 1] at b5
    exact b5
  refine ⟨⟨fun i hi => ?_, fun i h2 h8 => ?_, fun i hi => ?_⟩, b1, b2.trans a2, b3.trans a3, k2, k1, a1.up⟩
  · match i, hi with
    | 0, _ => rcases f0 with e | e <;> rw [e] <;> first | exact Nat.zero_le _ | exact ha
    | 1, _ => rcases f1 with e | e <;> rw [e] <;> first | exact Nat.zero_le _ | exact hb
  · show ((ptM (ptM mq0 0 xs0).1 1 bs).1.f i).told.length = 0
    rw [b4 i (by omega), a4 i (by omega), z i]
    rfl
  · match i, hi with
    | 0, _ => rcases f0 with e | e <;> rw [e] <;> first | exact By.nil | exact h1
    | 1, _ => rcases f1 with e | e <;> rw [e] <;> first | exact By.nil | exact h2

/-- What a call of the list holds, in its box. -/
def Bx (x : World) (bx : Nat) (op : Int) (q : Option Addr) (n c : Nat) : Prop := x.cell? ⟨bx, 0, none⟩ = some (.int .i64 op) ∧ x.cell? ⟨bx, 2, none⟩ = some (.slice q n c)

theorem Bx.below {x y : World} {bx : Nat} {op : Int} {q : Option Addr} {n c : Nat} (h : Bx x bx op q n c) (hb : Below x.heap.size x y) : Bx y bx op q n c := ⟨cell_below hb h.1, cell_below hb h.2⟩

theorem Bx.ch {S : Nat → Prop} {x y : World} {bx : Nat} {op : Int} {q : Option Addr} {n c : Nat} (h : Bx x bx op q n c) (hb : Ch S x y) (hs : ¬ S bx) : Bx y bx op q n c := ⟨(hb.cell (World.block_lt_of_cell? _ _ h.1) hs).trans h.1, (hb.cell (World.block_lt_of_cell? _ _ h.2) hs).trans h.2⟩

/-- Where the law is: two tapes alike. -/
structure AgI (w3 wr : World) (L L2 g gt gc gu : Nat) (o1 o2 : Nat → Nat) (kk : Nat) (m : PD) (t : TP) : Prop where
  pr : Pr wr L L2 g gt gc gu o1 o2 m t m t
  cal : Cal m
  ok : m.ok (50000000 + kk * 40000000)
  file : t.file ≤ 1
  few : t.r.recs.length ≤ 4096 + kk
  base : t.r.base.length ≤ 8176
  recs : ∀ d ∈ t.r.recs, d.length ≤ 8192
  bel : Below L w3 wr
  low : L ≤ L2

theorem AgI.below {w3 wr w' : World} {L L2 g gt gc gu : Nat} {o1 o2 : Nat → Nat} {kk : Nat} {m : PD} {t : TP} (h : AgI w3 wr L L2 g gt gc gu o1 o2 kk m t) (hb : Below wr.heap.size wr w') : AgI w3 w' L L2 g gt gc gu o1 o2 kk m t :=
  ⟨h.pr.below hb, h.cal, h.ok, h.file, h.few, h.base, h.recs, h.bel.trans (hb.mono h.pr.t1.o.lw), h.low⟩

/-- One call ahead of the first Put, behind it, and behind both. -/
def Sa (w3 : World) (L L2 g gt gc gu : Nat) (o1 o2 : Nat → Nat) (kk : Nat) (m : PD) (t : TP) (bx : Nat) (op : Int) (q : Option Addr) (n c : Nat) (x : World) : Prop := Bx x bx op q n c ∧ AgI w3 x L L2 g gt gc gu o1 o2 kk m t
def Sb (w3 : World) (L L2 g gt gc gu : Nat) (o2 : Nat → Nat) (m1 : PD) (t1 : TP) (m : PD) (t : TP) (bx : Nat) (op : Int) (q : Option Addr) (n c : Nat) (x : World) : Prop := Bx x bx op q n c ∧ (∃ o1, Pr x L L2 g gt gc gu o1 o2 m1 t1 m t) ∧ Below L w3 x
def Sc (w3 : World) (L L2 g gt gc gu : Nat) (kk : Nat) (m : PD) (t : TP) (bx : Nat) (op : Int) (q : Option Addr) (n c : Nat) (x : World) : Prop := Bx x bx op q n c ∧ ∃ o1 o2, AgI w3 x L L2 g gt gc gu o1 o2 kk m t

theorem Sa.stays {w3 : World} {L L2 g gt gc gu : Nat} {o1 o2 : Nat → Nat} {kk : Nat} {m : PD} {t : TP} {bx : Nat} {op : Int} {q : Option Addr} {n c : Nat} : Stays (Sa w3 L L2 g gt gc gu o1 o2 kk m t bx op q n c) := fun _ _ h hb => ⟨h.1.below hb, h.2.below hb⟩
theorem Sb.stays {w3 : World} {L L2 g gt gc gu : Nat} {o2 : Nat → Nat} {m1 : PD} {t1 : TP} {m : PD} {t : TP} {bx : Nat} {op : Int} {q : Option Addr} {n c : Nat} : Stays (Sb w3 L L2 g gt gc gu o2 m1 t1 m t bx op q n c) := fun _ _ h hb => by
  obtain ⟨h1, ⟨o1, h2⟩, h3⟩ := h
  exact ⟨h1.below hb, ⟨o1, h2.below hb⟩, h3.trans (hb.mono h2.t1.o.lw)⟩
theorem Sc.stays {w3 : World} {L L2 g gt gc gu : Nat} {kk : Nat} {m : PD} {t : TP} {bx : Nat} {op : Int} {q : Option Addr} {n c : Nat} : Stays (Sc w3 L L2 g gt gc gu kk m t bx op q n c) := fun _ _ h hb => by
  obtain ⟨h1, o1, o2, h2⟩ := h
  exact ⟨h1.below hb, o1, o2, h2.below hb⟩

theorem AgI.put1 {w3 wb V : World} {L L2 g gt gc gu : Nat} {o1 o2 : Nat → Nat} {kk : Nat} {m : PD} {t : TP} (h0 : AgI w3 wb L L2 g gt gc gu o1 o2 kk m t) (hk : kk ≤ 60) {op : Int} {q : Option Addr} {n c : Nat} (h : Sa w3 L L2 g gt gc gu o1 o2 kk m t wb.heap.size op q n c V) (xs : List Int) (hr : Rd .u8 V q n c xs) (hy : By xs) (hlow : ∀ x, q = some x → 0 < n → x.block < L) :
    Calls Tryz.prog 21 #[.pointer (some ⟨gt, 0, none⟩), .slice q n c] V fun e V' => e = .returned (.int .i64 (ptT m t xs).1) ∧ Sb w3 L L2 g gt gc gu o2 (ptT m t xs).2.1 (ptT m t xs).2.2 m t wb.heap.size op q n c V' := by
  obtain ⟨h1, h2⟩ := h
  refine (h2.pr.put1 _ h2.cal h2.ok (by omega) h2.file (by have := h2.few; omega) q n c xs hr hy hlow).mono ?_
  rintro e V' ⟨rfl, o1', h3, h4⟩
  exact ⟨rfl, h1.ch h4 (fun e => e (h0.pr.t1.new (Nat.le_refl _))), ⟨o1', h3⟩, h2.bel.trans (h4.lowB h2.pr.t1)⟩

theorem AgI.put2 {w3 wb V : World} {L L2 g gt gc gu : Nat} {o1 o2 : Nat → Nat} {kk : Nat} {m : PD} {t : TP} (h0 : AgI w3 wb L L2 g gt gc gu o1 o2 kk m t) (hk : kk ≤ 60) {op : Int} {q : Option Addr} {n c : Nat} (xs : List Int) (h : Sb w3 L L2 g gt gc gu o2 (ptT m t xs).2.1 (ptT m t xs).2.2 m t wb.heap.size op q n c V) (hr : Rd .u8 V q n c xs) (hy : By xs) (hlow : ∀ x, q = some x → 0 < n → x.block < L) :
    Calls Tryz.prog 21 #[.pointer (some ⟨gu, 0, none⟩), .slice q n c] V fun e V' => e = .returned (.int .i64 (ptT m t xs).1) ∧ Sc w3 L L2 g gt gc gu (kk + 1) (ptT m t xs).2.1 (ptT m t xs).2.2 wb.heap.size op q n c V' := by
  obtain ⟨h1, ⟨o1', h2⟩, hb⟩ := h
  refine (h2.put2 _ h0.cal h0.ok (by omega) h0.file (by have := h0.few; omega) q n c xs hr hy (fun x e hn => Nat.lt_of_lt_of_le (hlow x e hn) h0.low)).mono ?_
  rintro e V' ⟨rfl, o2', h3, h4⟩
  obtain ⟨f1, f2, f3, f4⟩ := ptT_file (m := m) (t := t) (xs := xs)
  refine ⟨rfl, h1.ch h4 (fun e => e (h0.pr.t2.new (Nat.le_refl _))), o1', o2', h3, h0.cal.ptk.2, (ptT_ok h0.ok h0.file).mono (by omega), by rw [f1]; exact h0.file, by have := h0.few; omega, by rw [f2]; exact h0.base, f4 h0.recs, hb.trans ((h4.lowB h2.t2).mono h0.low), h0.low⟩

/-- The law's begin: two tapes alike. -/
theorem AgI.mk0 {w3 w5 w6 w7 : World} {L g gt gc gu : Nat} {o1 oc o2 : Nat → Nat} {d : Dk} {m : PD} {t : TP} (h1 : TSx w5 L 0 g gt o1 m t) (hb5 : Below L w3 w5) (hD : DS w6 w5.heap.size 1 gc oc d m) (hb6 : Below w5.heap.size w5 w6) (h2 : TSx w7 w5.heap.size 1 gc gu o2 m ⟨t.file, t.r.recs.length, t.r⟩) (ho : ∀ k, k < w6.heap.size → o2 k = oc k) (hb7 : Below w6.heap.size w6 w7)
    (hk : t.kept = t.r.recs.length) (hc : Cal m) (hkeep : m.keep = []) (hok : m.ok 40040000) (hf : t.file ≤ 1) (hr : t.r.fit) (hfew : t.r.recs.length ≤ 4096) : AgI w3 w7 L w5.heap.size g gt gc gu o1 o2 0 m t := by
  have hb57 : Below w5.heap.size w5 w7 := hb6.trans (hb7.mono hb6.size)
  have e : (⟨t.file, t.r.recs.length, t.r⟩ : TP) = t := by rw [← hk]
  rw [e] at h2
  refine ⟨⟨h1.below hb57, h2, fun k => ?_, hkeep, hkeep⟩, hc, hok.mono (by omega), hf, by omega, hr.base.1, fun d hd => (getD_all (P := fun d => By d ∧ d.length ≤ 8192) hr.recs d hd).2, hb5.trans (hb57.mono h1.o.lw), h1.o.lw⟩
  rcases Nat.lt_or_ge k w5.heap.size with hk | hk
  · refine Or.inr ⟨(ho k (Nat.lt_of_lt_of_le hk hb6.size)).trans (hD.low k hk), ?_⟩
    have := hD.lg
    omega
  · exact Or.inl (h1.new hk)

end Go.Proofs.YtpjhadaiodnnaaaGreat.M
end
