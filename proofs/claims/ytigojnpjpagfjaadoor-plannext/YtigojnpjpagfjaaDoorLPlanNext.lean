/-
  Own text: the document's Next of plans.
  Own text: the walk of the statement 'PlanNext'.
-/
import Derived.Test.YtigojnpjpagfjaaDoorVRef
namespace Go.Proofs.YtigojnpjpagfjaaDoor.M
open Go.ChangeShapes Go.WideShapes Go.ChangeAt Go.RowKit

theorem cut_doc (nd e : Int) (ms : List Mb) : rcutR (kpM nd (-1)) e ms = cutR (fun y => y.n == nd) e ms := cut_eq _ _ e ms (fun m hm => by
  have := (isMb_iff m).1 hm
  unfold kpM
  have h : (m.s == -1) = false := by simp; omega
  rw [h]
  simp)

/-- What sites lack, from the k-th on. -/
def lacksD (ms : List Mb) (v0 v1 v2 : Int) (k : Nat) : List Int := (lacksL ms [v0, v1, v2]).drop k

theorem lacksD_0 (ms : List Mb) (v0 v1 v2 : Int) : lacksD ms v0 v1 v2 0 = lackV ms v0 0 :: lacksD ms v0 v1 v2 1 := rfl
theorem lacksD_1 (ms : List Mb) (v0 v1 v2 : Int) : lacksD ms v0 v1 v2 1 = lackV ms v1 1 :: lacksD ms v0 v1 v2 2 := rfl
theorem lacksD_2 (ms : List Mb) (v0 v1 v2 : Int) : lacksD ms v0 v1 v2 2 = lackV ms v2 2 :: lacksD ms v0 v1 v2 3 := rfl
theorem lacksD_3 (ms : List Mb) (v0 v1 v2 : Int) : lacksD ms v0 v1 v2 3 = [] := rfl

theorem spare_err {al : Nat} {hs : List Int} {e : Int} {ms : List Mb} {s : Int} (hc : chk e ms = true) (h : spareV al hs ms s < 0) : ∃ er, joinR e ms ⟨spareV al hs ms s, s, false⟩ = .error er := by
  refine ⟨81, ?_⟩
  unfold joinR
  have hm : isMb ⟨spareV al hs ms s, s, false⟩ = false := by
    unfold isMb
    rw [decide_eq_false (by show ¬ 0 ≤ spareV al hs ms s; omega)]
    rfl
  rw [hc, hm]
  rfl

/-- All have all, if nobody is fresh; else not. -/
theorem whole_iff {e : Int} {ms : List Mb} (hc : chk e ms = true) : (thN (fun m => !m.f) 0 ms = thN (fun _ => true) 0 ms) ↔ (ms.any fun m => m.f) = false := by
  obtain ⟨_, _, _, hg⟩ := (chk_iff e ms).1 hc
  constructor
  · intro h
    cases ha : ms.any (fun m => m.f) with
    | false => rfl
    | true =>
      exfalso
      obtain ⟨x, hx, hf⟩ := List.any_eq_true.1 ha
      have hb := (isMb_iff x).1 (hg.1 x hx)
      obtain ⟨j, hj⟩ := Int.eq_ofNat_of_zero_le hb.1
      have hj64 : j < 64 := by omega
      have h1 := thN_test (fun _ => true) j hj64 ms 0
      have h2 := thN_test (fun m => !m.f) j hj64 ms 0
      rw [h, h1] at h2
      have h3 : (ms.any fun m => true && m.n == (j : Int)) = true := List.any_eq_true.2 ⟨x, hx, by rw [hj]; simp⟩
      rw [h3, Bool.or_true] at h2
      have h4 : (ms.any fun m => !m.f && m.n == (j : Int)) = true := by simpa using h2.symm
      obtain ⟨y, hy, hy2⟩ := List.any_eq_true.1 h4
      simp only [Bool.and_eq_true, Bool.not_eq_true', beq_iff_eq] at hy2
      have hxy : x = y := by
        rcases List.mem_iff_getElem.1 hx with ⟨i, hi, rfl⟩
        rcases List.mem_iff_getElem.1 hy with ⟨i2, hi2, rfl⟩
        rcases Nat.lt_trichotomy i i2 with h5 | h5 | h5
        · exact absurd (hj.trans hy2.2.symm) ((List.pairwise_iff_getElem.1 hg.2 i i2 hi hi2 h5).1)
        · subst h5; rfl
        · exact absurd (hy2.2.trans hj.symm) ((List.pairwise_iff_getElem.1 hg.2 i2 i hi2 hi h5).1)
      rw [hxy, hy2.1] at hf
      cases hf
  · intro h
    have key : ∀ (l : List Mb) (x : Nat), (l.any fun m => m.f) = false → thN (fun m => !m.f) x l = thN (fun _ => true) x l := by
      intro l
      induction l with
      | nil => intro x _; rfl
      | cons a l ih =>
        intro x hh
        rw [List.any_cons, Bool.or_eq_false_iff] at hh
        unfold thN
        rw [hh.1]
        simp only [Bool.not_false, if_true]
        exact ih _ hh.2
    exact key ms 0 h

theorem take_any {ms : List Mb} {k : Nat} (h : k < ms.length) : ((ms.take (k + 1)).any fun m => m.f) = (((ms.take k).any fun m => m.f) || (ms.getD k .z0).f) := by
  rw [take_snoc_mb h, List.any_append]
  simp

set_option maxRecDepth 20000 in
set_option maxHeartbeats 8000000 in
theorem rNext_any (e : Int) (p : Option Addr) (n c : Nat) (ms : List Mb) (al : Nat) (h0 h1 h2 h3 h4 h5 v0 v1 v2 : Int) (w : World) (hal : al < 18446744073709551616) (hr : RdM w p n c ms) (hn : n ≤ 5864062014805) :
    Calls Tryd.prog 15 #[.agg #[.int .i64 e, .slice p n c], .int .u64 (al : Int), .agg #[.int .i64 h0, .int .i64 h1, .int .i64 h2, .int .i64 h3, .int .i64 h4, .int .i64 h5], .agg #[.int .i64 v0, .int .i64 v1, .int .i64 v2]] w fun r w' => r = .returned (pnV al [h0, h1, h2, h3, h4, h5] [v0, v1, v2] e ms) ∧ Below w.heap.size w w' := by
  have hb0 : Below w.heap.size w ((((w.alloc (.cells #[.int .i64 e, .slice p n c] 28)).alloc (.cells #[.int .i64 h0, .int .i64 h1, .int .i64 h2, .int .i64 h3, .int .i64 h4, .int .i64 h5] 23)).alloc (.cells #[.int .i64 v0, .int .i64 v1, .int .i64 v2] 25)).alloc (.cells #[.int .i64 0, .int .i64 0, .int .i64 0, .int .i64 0] 37)) := ((((Below.refl _ _).alloc (Nat.le_refl _) _).alloc (by simp) _).alloc (by simp; omega) _).alloc (by simp; omega) _
  have hX : At 28 ((((w.alloc (.cells #[.int .i64 e, .slice p n c] 28)).alloc (.cells #[.int .i64 h0, .int .i64 h1, .int .i64 h2, .int .i64 h3, .int .i64 h4, .int .i64 h5] 23)).alloc (.cells #[.int .i64 v0, .int .i64 v1, .int .i64 v2] 25)).alloc (.cells #[.int .i64 0, .int .i64 0, .int .i64 0, .int .i64 0] 37)) w.heap.size #[.int .i64 e, .slice p n c] := (((At.new 28 w _).alloc _).alloc _).alloc _
  have hH : At 23 ((((w.alloc (.cells #[.int .i64 e, .slice p n c] 28)).alloc (.cells #[.int .i64 h0, .int .i64 h1, .int .i64 h2, .int .i64 h3, .int .i64 h4, .int .i64 h5] 23)).alloc (.cells #[.int .i64 v0, .int .i64 v1, .int .i64 v2] 25)).alloc (.cells #[.int .i64 0, .int .i64 0, .int .i64 0, .int .i64 0] 37)) (w.heap.size + 1) #[.int .i64 h0, .int .i64 h1, .int .i64 h2, .int .i64 h3, .int .i64 h4, .int .i64 h5] := At.moved (by simp) (((At.new 23 _ _).alloc _).alloc _)
  have hV : At 25 ((((w.alloc (.cells #[.int .i64 e, .slice p n c] 28)).alloc (.cells #[.int .i64 h0, .int .i64 h1, .int .i64 h2, .int .i64 h3, .int .i64 h4, .int .i64 h5] 23)).alloc (.cells #[.int .i64 v0, .int .i64 v1, .int .i64 v2] 25)).alloc (.cells #[.int .i64 0, .int .i64 0, .int .i64 0, .int .i64 0] 37)) (w.heap.size + 2) #[.int .i64 v0, .int .i64 v1, .int .i64 v2] := At.moved (by simp) ((At.new 25 _ _).alloc _)
  have hC : At 37 ((((w.alloc (.cells #[.int .i64 e, .slice p n c] 28)).alloc (.cells #[.int .i64 h0, .int .i64 h1, .int .i64 h2, .int .i64 h3, .int .i64 h4, .int .i64 h5] 23)).alloc (.cells #[.int .i64 v0, .int .i64 v1, .int .i64 v2] 25)).alloc (.cells #[.int .i64 0, .int .i64 0, .int .i64 0, .int .i64 0] 37)) (w.heap.size + 3) #[.int .i64 0, .int .i64 0, .int .i64 0, .int .i64 0] := At.moved (by simp) (At.new 37 _ _)
  have hr0 := hr.below hb0
  have hCk := rCheck_any e p n c ms _ hr0 hn
  have hPc := fun W => rpCheck_any h0 h1 h2 h3 h4 h5 v0 v1 v2 W
  unfold chkV at hCk
  unfold planV at hPc
  generalize hw : w.heap.size = b at *
  obtain ⟨x0, x1⟩ := hX.two
  cases hk : chk e ms with
  | false =>
    have HR : Hid (pnV al [h0, h1, h2, h3, h4, h5] [v0, v1, v2] e ms = .tuple #[.agg #[.int .i64 0, .int .i64 0, .int .i64 0, .int .i64 0], .bool false, .int .i64 80]) := by unfold Hid pnV; rw [hk]; rfl
    rw [HR.out]
    rw [hk] at hCk
    simp only [Bool.false_eq_true, if_false] at hCk
    clear hk hr hr0 HR hPc
    go_enter Tryd.func15, Tryd.ntmps15
    go_wp2_with fail
    refine hCk.mono ?_
    rintro r w1 ⟨rfl, hb1⟩
    have hB1 := hb0.trans (hb1.mono (by have := hb0.size; omega))
    have hC1 := hC.below hb1
    obtain ⟨c0, c1, c2, c3⟩ := hC1.four
    obtain ⟨f0, f1, f2, f3⟩ := hC1.free4
    clear hCk hC hb0 hb1
    go_wp2_with fail
    exact bodyPost_ret (results_cm (p := 8) (u := 9) (t := 10) rfl _ _ (b + 3) _ _ _ _ rfl (hC1.put4 _ _ _ _)) rfl ⟨rfl, Below.put4 hB1 (by omega) _ _ _ _⟩
  | true =>
  rw [hk] at hCk
  simp only [if_true] at hCk
  cases hpc : planC [h0, h1, h2, h3, h4, h5] [v0, v1, v2] with
  | false =>
    have HR : Hid (pnV al [h0, h1, h2, h3, h4, h5] [v0, v1, v2] e ms = .tuple #[.agg #[.int .i64 0, .int .i64 0, .int .i64 0, .int .i64 0], .bool false, .int .i64 1]) := by unfold Hid pnV; rw [hk, hpc]; rfl
    rw [HR.out]
    rw [hpc] at hPc
    simp only [Bool.false_eq_true, if_false] at hPc
    clear hk hr hr0 HR hpc
    go_enter Tryd.func15, Tryd.ntmps15
    go_wp2_with fail
    refine hCk.mono ?_
    rintro r w1 ⟨rfl, hb1⟩
    have hB1 := hb0.trans (hb1.mono (by have := hb0.size; omega))
    have hC1 := hC.below hb1
    obtain ⟨m0, m1, m2, m3, m4, m5⟩ := (hH.below hb1).six
    obtain ⟨n0, n1, n2⟩ := (hV.below hb1).three
    clear hCk hC hb0 hb1 hH hV
    go_wp2_with fail
    refine (hPc _).mono ?_
    rintro r w2 ⟨rfl, hb2⟩
    have hB2 := hB1.trans (hb2.mono (by have := hB1.size; omega))
    have hC2 := hC1.below hb2
    obtain ⟨c0, c1, c2, c3⟩ := hC2.four
    obtain ⟨f0, f1, f2, f3⟩ := hC2.free4
    clear hPc hC1 hB1 hb2
    go_wp2_with fail
    exact bodyPost_ret (results_cm (p := 8) (u := 9) (t := 10) rfl _ _ (b + 3) _ _ _ _ rfl (hC2.put4 _ _ _ _)) rfl ⟨rfl, Below.put4 hB2 (by omega) _ _ _ _⟩
  | true =>
    rw [hpc] at hPc
    simp only [if_true] at hPc
    obtain ⟨R, HR⟩ : ∃ x, Hid (nextR al [h0, h1, h2, h3, h4, h5] [v0, v1, v2] e ms = x) := ⟨_, rfl⟩
    have HPV : Hid (pnV al [h0, h1, h2, h3, h4, h5] [v0, v1, v2] e ms = okV R) := by unfold Hid pnV; rw [hk, hpc, HR.out]; rfl
    rw [HPV.out]
    have hgm := ((chk_iff e ms).1 hk).2.2.2.1
    have hF := fun W => from_any al W hal
    have hbl := bitL_len al
    have hget : ∀ k, k < 64 → (bitL al).getD k false = al.testBit k := fun k hk => bitL_get al hk
    have hOne := bools_one (bitL al)
    have hInf := info_set (bitL al) hbl
    have HML : Hid (ms.length = n) := hr.len
    clear HPV hpc
    generalize bitL al = bs at *
    obtain ⟨hs, HS⟩ : ∃ l : List Int, Hid (l = [h0, h1, h2, h3, h4, h5]) := ⟨_, rfl⟩
    rw [← HS.out] at HR
    go_enter Tryd.func15, Tryd.ntmps15
    go_wp2_with fail
    refine hCk.mono ?_
    rintro r w1 ⟨rfl, hb1⟩
    have hB1 := hb0.trans (hb1.mono (by have := hb0.size; omega))
    have hX1 := hX.below hb1
    have hH1 := hH.below hb1
    have hV1 := hV.below hb1
    have hC1 := hC.below hb1
    obtain ⟨m0, m1, m2, m3, m4, m5⟩ := hH1.six
    obtain ⟨n0, n1, n2⟩ := hV1.three
    clear hCk hX hH hV hC hb0 hb1 hr0 x0 x1
    go_wp2_with fail
    refine (hPc _).mono ?_
    rintro r w2 ⟨rfl, hb2⟩
    have hB2 := hB1.trans (hb2.mono (by have := hB1.size; omega))
    have hX2 := hX1.below hb2
    have hH2 := hH1.below hb2
    have hV2 := hV1.below hb2
    have hC2 := hC1.below hb2
    clear hPc hX1 hH1 hV1 hC1 hB1 hb2 m0 m1 m2 m3 m4 m5 n0 n1 n2
    go_wp2_with fail
    refine (hF _).mono ?_
    rintro r w3 ⟨rfl, hb3⟩
    have hzy : (bools (List.replicate 64 false)).size = (bools bs).size := by rw [bools_size, bools_size, hbl]; rfl
    have hY1 : Arr (w3.alloc (.cells (bools (List.replicate 64 false)) 78)) w3.heap.size (List.replicate 64 false) := heap_alloc_new _ _
    have hY2 := hY1.setRow bs
    have hbt : Below w3.heap.size w3 ((w3.alloc (.cells (bools (List.replicate 64 false)) 78)).setRow w3.heap.size (bools bs)) := ((Below.refl _ _).alloc (Nat.le_refl _) _).trans (below_setRow _ _ _ (Nat.le_refl _))
    have hX3 := (hX2.below hb3).below hbt
    have hH3 := (hH2.below hb3).below hbt
    have hV3 := (hV2.below hb3).below hbt
    have hC3 := (hC2.below hb3).below hbt
    have hB3' := hB2.trans (hb3.mono (by have := hB2.size; omega))
    have hB3 := hB3'.trans (hbt.mono (by have := hB3'.size; omega))
    obtain ⟨x0, x1⟩ := hX3.two
    clear hF hbt hb3 hB2 hB3' hX2 hH2 hV2 hC2
    generalize hob : Obj.cells (bools (List.replicate 64 false)) 78 = ob at hY1 hY2 hX3 hH3 hV3 hC3 hB3 x0 x1
    rw [zero64] at hob
    subst hob
    go_wp2_with (refine wpList_store_row rfl 78 _ _ rfl w3.heap.size (bools bs) rfl rfl _ _ hY1 hInf hzy hOne ?_)
    clear hY1
    generalize (w3.alloc _).setRow w3.heap.size (bools bs) = w4 at hY2 hX3 hH3 hV3 hC3 hB3 x0 x1 ⊢
    generalize w3.heap.size = G at *
    (try go_wp2_with fail)
    go_loopw [12, 35] (fun fv i wr => ∃ (k : Nat) (F : Bool), k ≤ n ∧ i = .int .i64 k ∧ fv = .bool F ∧ Hid (F = (ms.take k).any fun m => m.f) ∧ Hid (deadR al e ms (ms.drop k) = deadR al e ms ms) ∧ Arr wr G bs ∧ At 28 wr b #[.int .i64 e, .slice p n c] ∧ At 23 wr (b + 1) #[.int .i64 h0, .int .i64 h1, .int .i64 h2, .int .i64 h3, .int .i64 h4, .int .i64 h5] ∧ At 25 wr (b + 2) #[.int .i64 v0, .int .i64 v1, .int .i64 v2] ∧ At 37 wr (b + 3) #[.int .i64 0, .int .i64 0, .int .i64 0, .int .i64 0] ∧ Below b w wr) (fun _ i _ => n - (intOf i).toNat)
    case atStart => exact ⟨0, false, Nat.zero_le _, rfl, rfl, rfl, rfl, hY2, hX3, hH3, hV3, hC3, hB3⟩
    case round =>
      clear hY2 hX3 hH3 hV3 hC3 hB3 x0 x1
      obtain ⟨k, F, hkn, rfl, rfl, HF, HD, hA, hX, hH, hV, hC, hb⟩ := hrel
      have hrw := hr.below (by rw [hw]; exact hb)
      obtain ⟨x0, x1⟩ := hX.two
      by_cases h : k < n
      · obtain ⟨bb, o, rfl, hc⟩ := hrw.cells (by omega)
        obtain ⟨g1, g2, g3⟩ := hc k h
        have hkl : k < ms.length := by rw [HML.out]; exact h
        have hd := drop_mb (fs := ms) (k := k) hkl
        have hta := take_any hkl
        have hmb := (isMb_iff _).1 (hgm _ (getD_mb hkl))
        have hD := HD.out
        rw [hd, deadR] at hD
        rw [← HF.out] at hta
        clear hc HD hd HF hr
        generalize ms.getD k .z0 = m at *
        obtain ⟨mn, msi, mf⟩ := m
        dsimp only at g1 g2 g3 hD hta hmb
        obtain ⟨hm0, hm5, _, _⟩ := hmb
        obtain ⟨j, rfl⟩ := Int.eq_ofNat_of_zero_le hm0
        have hj64 : j < 64 := by omega
        have y0 := hA.cell (i := j) (by rw [hbl]; exact hj64)
        rw [hget j hj64] at y0
        have hhas : hasN al (j : Int) = al.testBit j := by unfold hasN; rw [decide_eq_true (by omega), Int.toNat_natCast]; rfl
        rw [hhas] at hD
        have hba := below_alloc wr (.cells #[.int .i64 (j : Int), .int .i64 msi, .bool mf] 45)
        have hM := At.new 45 wr #[.int .i64 (j : Int), .int .i64 msi, .bool mf]
        have hB := hb.trans (hba.mono (by have := hb.size; omega))
        have hA2 := hA.below hba
        have hX2 := hX.below hba
        have hH2 := hH.below hba
        have hV2 := hV.below hba
        have hC2 := hC.below hba
        have hr2 := hrw.below hba
        have y0b := cell_bel0 hba y0
        have hCu := fun W hx => rCut_any e (some ⟨bb, o, none⟩) n c ms (j : Int) (-1) W hx hn
        rw [cut_doc] at hCu
        obtain ⟨x0, x1⟩ := hX2.two
        obtain ⟨F2, HF2⟩ : ∃ z : Bool, Hid ((F || mf) = z) := ⟨_, rfl⟩
        have HFn : Hid (F2 = (ms.take (k + 1)).any fun m => m.f) := by unfold Hid; rw [hta, HF2.out]
        clear hba hA hX hH hV hC hb hrw hget hhas hta y0
        cases hcu : cutR (fun y => y.n == (j : Int)) e ms with
        | error kk =>
          have HD : Hid (deadR al e ms (ms.drop (k + 1)) = deadR al e ms ms) := by
            unfold Hid
            rw [hcu] at hD
            split at hD <;> exact hD
          have hk0 := vcut_err hcu
          rw [hcu] at hCu
          clear hD hcu y0b
          go_wp2_with fail
          refine (hCu _ hr2).mono ?_
          rintro r w5 ⟨x5, rfl, ht5, hb5⟩
          obtain rfl := ht5
          have hba := below_alloc w5 (.cells #[.int .i64 0, .slice none 0 0] 28)
          have hB5 := hB.trans (hb5.mono (by have := hB.size; omega))
          have hB6 := hB5.trans (hba.mono (by have := hB5.size; omega))
          obtain ⟨p0, p1, p2⟩ := ((hM.below hb5).below hba).three
          have hA6 := (hA2.below hb5).below hba
          have hX6 := (hX2.below hb5).below hba
          have hH6 := (hH2.below hb5).below hba
          have hV6 := (hV2.below hb5).below hba
          have hC6 := (hC2.below hb5).below hba
          have hF2 := HF2.out
          clear hCu hA2 hX2 hH2 hV2 hC2 hM hB hB5 hb5 hba hr2 g1 g2 g3 x0 x1 HF2
          cases F with
          | true =>
            obtain rfl : true = F2 := by rw [← hF2]; rfl
            clear hF2
            go_wp2_with fail
            go_roundw
            case rel => exact ⟨k + 1, true, by omega, by go_num, rfl, HFn, HD, hA6, hX6, hH6, hV6, hC6, hB6⟩
            case measure => simp [intOf]; omega
          | false =>
            obtain rfl : mf = F2 := by rw [← hF2]; rfl
            clear hF2
            go_wp2_with fail
            go_roundw
            case rel => exact ⟨k + 1, mf, by omega, by go_num, rfl, HFn, HD, hA6, hX6, hH6, hV6, hC6, hB6⟩
            case measure => simp [intOf]; omega
        | ok em =>
          obtain ⟨e2, ms2⟩ := em
          rw [hcu] at hCu hD
          cases hbit : al.testBit j with
          | true =>
            have HD : Hid (deadR al e ms (ms.drop (k + 1)) = deadR al e ms ms) := by
              unfold Hid
              rw [hbit, if_pos rfl] at hD
              exact hD
            rw [hbit] at y0b
            clear hD hcu hbit
            go_wp2_with fail
            refine (hCu _ hr2).mono ?_
            rintro r w5 ⟨x5, rfl, ht5, hb5⟩
            obtain ⟨q5, c5, rfl, _, _⟩ := ht5
            have hba := below_alloc w5 (.cells #[.int .i64 e2, .slice q5 ms2.length c5] 28)
            have hB5 := hB.trans (hb5.mono (by have := hB.size; omega))
            have hB6 := hB5.trans (hba.mono (by have := hB5.size; omega))
            obtain ⟨p0, p1, p2⟩ := ((hM.below hb5).below hba).three
            have y0c := cell_bel0 hba (cell_bel0 hb5 y0b)
            have hA6 := (hA2.below hb5).below hba
            have hX6 := (hX2.below hb5).below hba
            have hH6 := (hH2.below hb5).below hba
            have hV6 := (hV2.below hb5).below hba
            have hC6 := (hC2.below hb5).below hba
            have hF2 := HF2.out
            clear hCu hA2 hX2 hH2 hV2 hC2 hM hB hB5 hb5 hba hr2 g1 g2 g3 x0 x1 HF2 y0b
            cases F with
            | true =>
              obtain rfl : true = F2 := by rw [← hF2]; rfl
              clear hF2
              go_wp2_with fail
              go_roundw
              case rel => exact ⟨k + 1, true, by omega, by go_num, rfl, HFn, HD, hA6, hX6, hH6, hV6, hC6, hB6⟩
              case measure => simp [intOf]; omega
            | false =>
              obtain rfl : mf = F2 := by rw [← hF2]; rfl
              clear hF2
              go_wp2_with fail
              go_roundw
              case rel => exact ⟨k + 1, mf, by omega, by go_num, rfl, HFn, HD, hA6, hX6, hH6, hV6, hC6, hB6⟩
              case measure => simp [intOf]; omega
          | false =>
            have HVV : Hid (okV R = .tuple #[.agg #[.int .i64 1, .int .i64 (j : Int), .int .i64 0, .int .i64 e], .bool true, .int .i64 0]) := by
              unfold Hid
              rw [hbit, if_neg (by decide)] at hD
              rw [← HR.out]
              unfold nextR
              rw [← hD]
              rfl
            rw [hbit] at y0b
            clear hD hcu hbit
            go_wp2_with fail
            refine (hCu _ hr2).mono ?_
            rintro r w5 ⟨x5, rfl, ht5, hb5⟩
            obtain ⟨q5, c5, rfl, _, _⟩ := ht5
            have hba := below_alloc w5 (.cells #[.int .i64 e2, .slice q5 ms2.length c5] 28)
            have hB5 := hB.trans (hb5.mono (by have := hB.size; omega))
            have hB6 := hB5.trans (hba.mono (by have := hB5.size; omega))
            obtain ⟨p0, p1, p2⟩ := ((hM.below hb5).below hba).three
            have y0c := cell_bel0 hba (cell_bel0 hb5 y0b)
            obtain ⟨x0, x1⟩ := ((hX2.below hb5).below hba).two
            have hC6 := (hC2.below hb5).below hba
            obtain ⟨c0, c1, c2, c3⟩ := hC6.four
            obtain ⟨f0, f1, f2, f3⟩ := hC6.free4
            clear hCu hA2 hX2 hH2 hV2 hC2 hM hB hB5 hb5 hba hr2 g1 g2 g3 HF2 y0b
            go_wp2_with fail
            exact bodyPost_ret (results_cm (p := 8) (u := 9) (t := 10) rfl _ _ (b + 3) _ _ _ _ rfl (hC6.put4 _ _ _ _)) rfl ⟨by rw [HVV.out]; rfl, Below.put4 hB6 (by omega) _ _ _ _⟩
      · have hDn : deadR al e ms ms = none := by rw [← HD.out, List.drop_of_length_le (by rw [HML.out]; omega)]; rfl
        have hFf : F = ms.any fun m => m.f := by rw [HF.out, List.take_of_length_le (by rw [HML.out]; omega)]
        have HRA : Hid (joinA al hs [v0, v1, v2] e ms = R) := by unfold Hid; rw [← HR.out]; unfold nextR; rw [hDn]
        have HRT : Hid (F = true → R = none) := fun hF => by
          rw [← HRA.out]
          unfold joinA
          rw [if_neg (fun hh => by rw [(whole_iff hk).1 hh, hF] at hFf; cases hFf)]
        obtain ⟨J, HJJ⟩ : ∃ z, Hid (joinsR al hs e ms 0 (lacksD ms v0 v1 v2 0) = z) := ⟨_, rfl⟩
        have HRJ : Hid (F = false → J = R) := fun hF => by
          rw [← HRA.out, ← HJJ.out]
          unfold joinA
          rw [if_pos ((whole_iff hk).2 (by rw [← hFf, hF]))]
          rfl
        obtain ⟨l0, HO0⟩ : ∃ x, Hid (lackV ms v0 0 = x) := ⟨_, rfl⟩
        obtain ⟨l1, HO1⟩ : ∃ x, Hid (lackV ms v1 1 = x) := ⟨_, rfl⟩
        obtain ⟨l2, HO2⟩ : ∃ x, Hid (lackV ms v2 2 = x) := ⟨_, rfl⟩
        clear hrw x0 x1 HR HRA hDn hFf HF HD hA hget hgm
        go_wp2_with fail
        go_loopw [66] (fun i wr => ∃ k : Nat, k ≤ 3 ∧ i = .int .i64 k ∧ Hid (F = false → joinsR al hs e ms k (lacksD ms v0 v1 v2 k) = J) ∧ At 28 wr b #[.int .i64 e, .slice p n c] ∧ At 23 wr (b + 1) #[.int .i64 h0, .int .i64 h1, .int .i64 h2, .int .i64 h3, .int .i64 h4, .int .i64 h5] ∧ At 25 wr (b + 2) #[.int .i64 v0, .int .i64 v1, .int .i64 v2] ∧ At 37 wr (b + 3) #[.int .i64 0, .int .i64 0, .int .i64 0, .int .i64 0] ∧ Below b w wr) (fun i _ => 3 - (intOf i).toNat)
        case atStart => exact ⟨0, by omega, rfl, (fun _ => HJJ.out), hX, hH, hV, hC, hb⟩
        case round =>
          clear hX hH hV hC hb HJJ
          obtain ⟨k, hk3', rfl, HJ0, hX, hH, hV, hC, hb⟩ := hrel
          have hrw := hr.below (by rw [hw]; exact hb)
          obtain ⟨x0, x1⟩ := hX.two
          obtain ⟨m0, m1, m2, m3, m4, m5⟩ := hH.six
          by_cases hk3 : k < 3
          · obtain rfl | rfl | rfl : k = 0 ∨ k = 1 ∨ k = 2 := by omega
            · have HJ : Hid (F = false → (if l0 = 0 then joinsR al hs e ms (0 + 1) (lacksD ms v0 v1 v2 1) else match joinR e ms ⟨spareV al hs ms (0 : Nat), (0 : Nat), false⟩ with
                  | .ok (e', ms') => some (⟨2, spareV al hs ms (0 : Nat), (0 : Nat), e⟩, e', ms')
                  | .error _ => joinsR al hs e ms (0 + 1) (lacksD ms v0 v1 v2 1)) = J) := fun hF => by
                have := HJ0.out hF
                rw [lacksD_0, joinsR, HO0.out] at this
                exact this
              have hSp := rSpare_any e p n c ms al h0 h1 h2 h3 h4 h5 0 wr hal hrw hn
              have HSV : Hid (rspV al [h0, h1, h2, h3, h4, h5] e ms 0 = spareV al hs ms ((0 : Nat) : Int)) := by unfold Hid; rw [HS.out]; exact rsp_eq hk 0
              rw [HSV.out] at hSp
              have hM := fun W hx => many_any e p n c ms 0 W hx hn
              have hMn := manyN_le ms 0
              have HL0 : Hid (l0 = if ((manyN ms 0 : Nat) : Int) < v0 then v0 - ((manyN ms 0 : Nat) : Int) else 0) := by unfold Hid; rw [← HO0.out]; rfl
              have hJo := fun W hx => rJoin_any e p n c ms ⟨spareV al hs ms ((0 : Nat) : Int), ((0 : Nat) : Int), false⟩ W hx hn
              dsimp only at hJo
              have hsb := spare_err (al := al) (hs := hs) (e := e) (ms := ms) (s := ((0 : Nat) : Int)) hk
              generalize hsp : spareV al hs ms ((0 : Nat) : Int) = sp at *
              generalize manyN ms 0 = x at *
              clear HSV hsp HJ0 hk
              go_wp2_with fail
              refine hSp.mono ?_
              rintro r w5 ⟨rfl, hb5⟩
              have hB5 := hb.trans (hb5.mono (by have := hb.size; omega))
              have hX5 := hX.below hb5
              have hH5 := hH.below hb5
              have hV5 := hV.below hb5
              have hC5 := hC.below hb5
              have hr5 := hrw.below hb5
              obtain ⟨x0, x1⟩ := hX5.two
              obtain ⟨n0, n1, n2⟩ := hV5.three
              clear hSp hX hH hV hC hb hb5 hrw
              cases F with
              | true =>
                go_wp2_with fail
                refine wp_region_quiet_below (by kernel_rfl) (by kernel_rfl) ?_
                repeat (with_reducible refine wpQuiet_step (fun K hK => ?_); go_simp; first | (with_reducible refine hK _ ?_; clear hK K) | (rw [if_neg (by decide)]; with_reducible refine hK _ ?_; clear hK K))
                refine wpQuiet_nil ?_
                intro _ hw'
                obtain ⟨⟨dq, osq⟩, hw''⟩ := hw'
                subst hw''
                have hbq := below_regrown w5 dq osq
                go_wp2_with fail
                go_roundw
                case rel => exact ⟨1, by omega, rfl, (fun h => by cases h), hX5.below hbq, hH5.below hbq, hV5.below hbq, hC5.below hbq, hB5.trans (hbq.mono (by have := hB5.size; omega))⟩
                case measure => simp [intOf]
              | false =>
                have HJ1 := HJ.out rfl
                have HJR : Hid (J = R) := HRJ.out rfl
                by_cases hs0 : sp < 0
                · have HN : Hid (joinsR al hs e ms (0 + 1) (lacksD ms v0 v1 v2 1) = J) := by
                    unfold Hid
                    obtain ⟨er, her⟩ := hsb hs0
                    rw [← HJ1, her]
                    split <;> rfl
                  clear HJ HJ1 hsb hJo
                  go_wp2_with fail
                  refine wp_region_quiet_below (by kernel_rfl) (by kernel_rfl) ?_
                  repeat (with_reducible refine wpQuiet_step (fun K hK => ?_); go_simp; first | (with_reducible refine hK _ ?_; clear hK K) | (rw [if_neg (by decide)]; with_reducible refine hK _ ?_; clear hK K))
                  refine wpQuiet_nil ?_
                  intro _ hw'
                  obtain ⟨⟨dq, osq⟩, hw''⟩ := hw'
                  subst hw''
                  have hbq := below_regrown w5 dq osq
                  go_wp2_with fail
                  go_roundw
                  case rel => exact ⟨1, by omega, rfl, (fun _ => HN.out), hX5.below hbq, hH5.below hbq, hV5.below hbq, hC5.below hbq, hB5.trans (hbq.mono (by have := hB5.size; omega))⟩
                  case measure => simp [intOf]
                · have hsd : decide (sp < 0) = false := decide_eq_false hs0
                  have c1 := fun d os => Calls.regrown_of (hM (Sort.grow (redrawn w5 d) os) (hr5.below (below_regrown w5 d os)))
                  have k0 := cell_regrown x0
                  have k1 := cell_regrown x1
                  have j0 := cell_regrown n0
                  have j1 := cell_regrown n1
                  have j2 := cell_regrown n2
                  by_cases hmv : v0 ≤ (x : Int)
                  · have HN : Hid (joinsR al hs e ms (0 + 1) (lacksD ms v0 v1 v2 1) = J) := by
                      unfold Hid
                      rw [← HJ1, if_pos (by rw [HL0.out, if_neg (by omega)])]
                    have hmd : decide (v0 ≤ (x : Int)) = true := decide_eq_true hmv
                    clear HJ HJ1 hsb hJo hM hs0 x0 x1 n0 n1 n2 hmv
                    go_wp2_with fail
                    refine wp_region_quiet_below (by kernel_rfl) (by kernel_rfl) ?_
                    repeat (quiet_step (first | (go_at_call 11; exact c1 _ _)))
                    refine wpQuiet_nil ?_
                    intro _ hw'
                    obtain ⟨⟨dq, osq⟩, hw''⟩ := hw'
                    subst hw''
                    have hbq := below_regrown w5 dq osq
                    go_wp2_with fail
                    go_roundw
                    case rel => exact ⟨1, by omega, rfl, (fun _ => HN.out), hX5.below hbq, hH5.below hbq, hV5.below hbq, hC5.below hbq, hB5.trans (hbq.mono (by have := hB5.size; omega))⟩
                    case measure => simp [intOf]
                  · rw [if_neg (by rw [HL0.out, if_pos (by omega)]; omega)] at HJ1
                    have hmd : decide (v0 ≤ (x : Int)) = false := decide_eq_false hmv
                    have HJ2 : Hid ((match joinR e ms ⟨sp, ((0 : Nat) : Int), false⟩ with
                      | .ok (e', ms') => some (⟨2, sp, ((0 : Nat) : Int), e⟩, e', ms')
                      | .error _ => joinsR al hs e ms (0 + 1) (lacksD ms v0 v1 v2 1)) = J) := HJ1
                    clear HJ HJ1 hsb hM hs0 x0 x1 n0 n1 n2 hmv
                    go_wp2_with fail
                    refine wp_region_quiet_below (by kernel_rfl) (by kernel_rfl) ?_
                    repeat (quiet_step (first | (go_at_call 11; exact c1 _ _)))
                    refine wpQuiet_nil ?_
                    intro _ hw'
                    obtain ⟨⟨dq, osq⟩, hw''⟩ := hw'
                    subst hw''
                    have hbq := below_regrown w5 dq osq
                    clear c1 k0 k1 j0 j1 j2
                    generalize Sort.grow (redrawn w5 dq) osq = w6 at *
                    have hX6 := hX5.below hbq
                    have hH6 := hH5.below hbq
                    have hV6 := hV5.below hbq
                    have hC6 := hC5.below hbq
                    have hr6 := hr5.below hbq
                    have hB6 := hB5.trans (hbq.mono (by have := hB5.size; omega))
                    obtain ⟨x0, x1⟩ := hX6.two
                    clear hX5 hH5 hV5 hC5 hr5 hB5 hbq
                    cases hcu : joinR e ms ⟨sp, ((0 : Nat) : Int), false⟩ with
                    | error kk =>
                      have HN : Hid (joinsR al hs e ms (0 + 1) (lacksD ms v0 v1 v2 1) = J) := by
                        unfold Hid
                        rw [← HJ2.out, hcu]
                      have hk0 := vjoin_err hcu
                      rw [hcu] at hJo
                      clear HJ2 hcu
                      go_wp2_with fail
                      refine (hJo _ hr6).mono ?_
                      rintro r w7 ⟨x7, rfl, ht7, hb7⟩
                      obtain rfl := ht7
                      have hba := below_alloc w7 (.cells #[.int .i64 0, .slice none 0 0] 28)
                      have hB7 := hB6.trans (hb7.mono (by have := hB6.size; omega))
                      clear hJo
                      go_wp2_with fail
                      go_roundw
                      case rel => exact ⟨1, by omega, rfl, (fun _ => HN.out), (hX6.below hb7).below hba, (hH6.below hb7).below hba, (hV6.below hb7).below hba, (hC6.below hb7).below hba, hB7.trans (hba.mono (by have := hB7.size; omega))⟩
                      case measure => simp [intOf]
                    | ok em =>
                      obtain ⟨e2, ms2⟩ := em
                      have HN : Hid (J = some (⟨2, sp, ((0 : Nat) : Int), e⟩, e2, ms2)) := by
                        unfold Hid
                        rw [← HJ2.out, hcu]
                      have HR1 : Hid (R = some (⟨2, sp, 0, e⟩, e2, ms2)) := by unfold Hid; rw [← HJR.out, HN.out]; rfl
                      have HVV : Hid (okV R = .tuple #[.agg #[.int .i64 2, .int .i64 sp, .int .i64 0, .int .i64 e], .bool true, .int .i64 0]) := by unfold Hid; rw [HR1.out]; rfl
                      rw [hcu] at hJo
                      clear HJ2 hcu HN HR1
                      go_wp2_with fail
                      refine (hJo _ hr6).mono ?_
                      rintro r w7 ⟨x7, rfl, ht7, hb7⟩
                      obtain ⟨q7, c7, rfl, _, _⟩ := ht7
                      have hba := below_alloc w7 (.cells #[.int .i64 e2, .slice q7 ms2.length c7] 28)
                      have hB7 := hB6.trans (hb7.mono (by have := hB6.size; omega))
                      have hB8 := hB7.trans (hba.mono (by have := hB7.size; omega))
                      have hC8 := (hC6.below hb7).below hba
                      obtain ⟨x0, x1⟩ := ((hX6.below hb7).below hba).two
                      obtain ⟨c0, c1, c2, c3⟩ := hC8.four
                      obtain ⟨f0, f1, f2, f3⟩ := hC8.free4
                      clear hJo hX6 hH6 hV6 hC6 hr6 hB6 hb7 hba hB7
                      go_wp2_with fail
                      exact bodyPost_ret (results_cm (p := 8) (u := 9) (t := 10) rfl _ _ (b + 3) _ _ _ _ rfl (hC8.put4 _ _ _ _)) rfl ⟨by rw [HVV.out]; rfl, Below.put4 hB8 (by omega) _ _ _ _⟩
            · have HJ : Hid (F = false → (if l1 = 0 then joinsR al hs e ms (1 + 1) (lacksD ms v0 v1 v2 2) else match joinR e ms ⟨spareV al hs ms (1 : Nat), (1 : Nat), false⟩ with
                  | .ok (e', ms') => some (⟨2, spareV al hs ms (1 : Nat), (1 : Nat), e⟩, e', ms')
                  | .error _ => joinsR al hs e ms (1 + 1) (lacksD ms v0 v1 v2 2)) = J) := fun hF => by
                have := HJ0.out hF
                rw [lacksD_1, joinsR, HO1.out] at this
                exact this
              have hSp := rSpare_any e p n c ms al h0 h1 h2 h3 h4 h5 1 wr hal hrw hn
              have HSV : Hid (rspV al [h0, h1, h2, h3, h4, h5] e ms 1 = spareV al hs ms ((1 : Nat) : Int)) := by unfold Hid; rw [HS.out]; exact rsp_eq hk 1
              rw [HSV.out] at hSp
              have hM := fun W hx => many_any e p n c ms 1 W hx hn
              have hMn := manyN_le ms 1
              have HL1 : Hid (l1 = if ((manyN ms 1 : Nat) : Int) < v1 then v1 - ((manyN ms 1 : Nat) : Int) else 0) := by unfold Hid; rw [← HO1.out]; rfl
              have hJo := fun W hx => rJoin_any e p n c ms ⟨spareV al hs ms ((1 : Nat) : Int), ((1 : Nat) : Int), false⟩ W hx hn
              dsimp only at hJo
              have hsb := spare_err (al := al) (hs := hs) (e := e) (ms := ms) (s := ((1 : Nat) : Int)) hk
              generalize hsp : spareV al hs ms ((1 : Nat) : Int) = sp at *
              generalize manyN ms 1 = x at *
              clear HSV hsp HJ0 hk
              go_wp2_with fail
              refine hSp.mono ?_
              rintro r w5 ⟨rfl, hb5⟩
              have hB5 := hb.trans (hb5.mono (by have := hb.size; omega))
              have hX5 := hX.below hb5
              have hH5 := hH.below hb5
              have hV5 := hV.below hb5
              have hC5 := hC.below hb5
              have hr5 := hrw.below hb5
              obtain ⟨x0, x1⟩ := hX5.two
              obtain ⟨n0, n1, n2⟩ := hV5.three
              clear hSp hX hH hV hC hb hb5 hrw
              cases F with
              | true =>
                go_wp2_with fail
                refine wp_region_quiet_below (by kernel_rfl) (by kernel_rfl) ?_
                repeat (with_reducible refine wpQuiet_step (fun K hK => ?_); go_simp; first | (with_reducible refine hK _ ?_; clear hK K) | (rw [if_neg (by decide)]; with_reducible refine hK _ ?_; clear hK K))
                refine wpQuiet_nil ?_
                intro _ hw'
                obtain ⟨⟨dq, osq⟩, hw''⟩ := hw'
                subst hw''
                have hbq := below_regrown w5 dq osq
                go_wp2_with fail
                go_roundw
                case rel => exact ⟨2, by omega, rfl, (fun h => by cases h), hX5.below hbq, hH5.below hbq, hV5.below hbq, hC5.below hbq, hB5.trans (hbq.mono (by have := hB5.size; omega))⟩
                case measure => simp [intOf]
              | false =>
                have HJ1 := HJ.out rfl
                have HJR : Hid (J = R) := HRJ.out rfl
                by_cases hs0 : sp < 0
                · have HN : Hid (joinsR al hs e ms (1 + 1) (lacksD ms v0 v1 v2 2) = J) := by
                    unfold Hid
                    obtain ⟨er, her⟩ := hsb hs0
                    rw [← HJ1, her]
                    split <;> rfl
                  clear HJ HJ1 hsb hJo
                  go_wp2_with fail
                  refine wp_region_quiet_below (by kernel_rfl) (by kernel_rfl) ?_
                  repeat (with_reducible refine wpQuiet_step (fun K hK => ?_); go_simp; first | (with_reducible refine hK _ ?_; clear hK K) | (rw [if_neg (by decide)]; with_reducible refine hK _ ?_; clear hK K))
                  refine wpQuiet_nil ?_
                  intro _ hw'
                  obtain ⟨⟨dq, osq⟩, hw''⟩ := hw'
                  subst hw''
                  have hbq := below_regrown w5 dq osq
                  go_wp2_with fail
                  go_roundw
                  case rel => exact ⟨2, by omega, rfl, (fun _ => HN.out), hX5.below hbq, hH5.below hbq, hV5.below hbq, hC5.below hbq, hB5.trans (hbq.mono (by have := hB5.size; omega))⟩
                  case measure => simp [intOf]
                · have hsd : decide (sp < 0) = false := decide_eq_false hs0
                  have c1 := fun d os => Calls.regrown_of (hM (Sort.grow (redrawn w5 d) os) (hr5.below (below_regrown w5 d os)))
                  have k0 := cell_regrown x0
                  have k1 := cell_regrown x1
                  have j0 := cell_regrown n0
                  have j1 := cell_regrown n1
                  have j2 := cell_regrown n2
                  by_cases hmv : v1 ≤ (x : Int)
                  · have HN : Hid (joinsR al hs e ms (1 + 1) (lacksD ms v0 v1 v2 2) = J) := by
                      unfold Hid
                      rw [← HJ1, if_pos (by rw [HL1.out, if_neg (by omega)])]
                    have hmd : decide (v1 ≤ (x : Int)) = true := decide_eq_true hmv
                    clear HJ HJ1 hsb hJo hM hs0 x0 x1 n0 n1 n2 hmv
                    go_wp2_with fail
                    refine wp_region_quiet_below (by kernel_rfl) (by kernel_rfl) ?_
                    repeat (quiet_step (first | (go_at_call 11; exact c1 _ _)))
                    refine wpQuiet_nil ?_
                    intro _ hw'
                    obtain ⟨⟨dq, osq⟩, hw''⟩ := hw'
                    subst hw''
                    have hbq := below_regrown w5 dq osq
                    go_wp2_with fail
                    go_roundw
                    case rel => exact ⟨2, by omega, rfl, (fun _ => HN.out), hX5.below hbq, hH5.below hbq, hV5.below hbq, hC5.below hbq, hB5.trans (hbq.mono (by have := hB5.size; omega))⟩
                    case measure => simp [intOf]
                  · rw [if_neg (by rw [HL1.out, if_pos (by omega)]; omega)] at HJ1
                    have hmd : decide (v1 ≤ (x : Int)) = false := decide_eq_false hmv
                    have HJ2 : Hid ((match joinR e ms ⟨sp, ((1 : Nat) : Int), false⟩ with
                      | .ok (e', ms') => some (⟨2, sp, ((1 : Nat) : Int), e⟩, e', ms')
                      | .error _ => joinsR al hs e ms (1 + 1) (lacksD ms v0 v1 v2 2)) = J) := HJ1
                    clear HJ HJ1 hsb hM hs0 x0 x1 n0 n1 n2 hmv
                    go_wp2_with fail
                    refine wp_region_quiet_below (by kernel_rfl) (by kernel_rfl) ?_
                    repeat (quiet_step (first | (go_at_call 11; exact c1 _ _)))
                    refine wpQuiet_nil ?_
                    intro _ hw'
                    obtain ⟨⟨dq, osq⟩, hw''⟩ := hw'
                    subst hw''
                    have hbq := below_regrown w5 dq osq
                    clear c1 k0 k1 j0 j1 j2
                    generalize Sort.grow (redrawn w5 dq) osq = w6 at *
                    have hX6 := hX5.below hbq
                    have hH6 := hH5.below hbq
                    have hV6 := hV5.below hbq
                    have hC6 := hC5.below hbq
                    have hr6 := hr5.below hbq
                    have hB6 := hB5.trans (hbq.mono (by have := hB5.size; omega))
                    obtain ⟨x0, x1⟩ := hX6.two
                    clear hX5 hH5 hV5 hC5 hr5 hB5 hbq
                    cases hcu : joinR e ms ⟨sp, ((1 : Nat) : Int), false⟩ with
                    | error kk =>
                      have HN : Hid (joinsR al hs e ms (1 + 1) (lacksD ms v0 v1 v2 2) = J) := by
                        unfold Hid
                        rw [← HJ2.out, hcu]
                      have hk0 := vjoin_err hcu
                      rw [hcu] at hJo
                      clear HJ2 hcu
                      go_wp2_with fail
                      refine (hJo _ hr6).mono ?_
                      rintro r w7 ⟨x7, rfl, ht7, hb7⟩
                      obtain rfl := ht7
                      have hba := below_alloc w7 (.cells #[.int .i64 0, .slice none 0 0] 28)
                      have hB7 := hB6.trans (hb7.mono (by have := hB6.size; omega))
                      clear hJo
                      go_wp2_with fail
                      go_roundw
                      case rel => exact ⟨2, by omega, rfl, (fun _ => HN.out), (hX6.below hb7).below hba, (hH6.below hb7).below hba, (hV6.below hb7).below hba, (hC6.below hb7).below hba, hB7.trans (hba.mono (by have := hB7.size; omega))⟩
                      case measure => simp [intOf]
                    | ok em =>
                      obtain ⟨e2, ms2⟩ := em
                      have HN : Hid (J = some (⟨2, sp, ((1 : Nat) : Int), e⟩, e2, ms2)) := by
                        unfold Hid
                        rw [← HJ2.out, hcu]
                      have HR1 : Hid (R = some (⟨2, sp, 1, e⟩, e2, ms2)) := by unfold Hid; rw [← HJR.out, HN.out]; rfl
                      have HVV : Hid (okV R = .tuple #[.agg #[.int .i64 2, .int .i64 sp, .int .i64 1, .int .i64 e], .bool true, .int .i64 0]) := by unfold Hid; rw [HR1.out]; rfl
                      rw [hcu] at hJo
                      clear HJ2 hcu HN HR1
                      go_wp2_with fail
                      refine (hJo _ hr6).mono ?_
                      rintro r w7 ⟨x7, rfl, ht7, hb7⟩
                      obtain ⟨q7, c7, rfl, _, _⟩ := ht7
                      have hba := below_alloc w7 (.cells #[.int .i64 e2, .slice q7 ms2.length c7] 28)
                      have hB7 := hB6.trans (hb7.mono (by have := hB6.size; omega))
                      have hB8 := hB7.trans (hba.mono (by have := hB7.size; omega))
                      have hC8 := (hC6.below hb7).below hba
                      obtain ⟨x0, x1⟩ := ((hX6.below hb7).below hba).two
                      obtain ⟨c0, c1, c2, c3⟩ := hC8.four
                      obtain ⟨f0, f1, f2, f3⟩ := hC8.free4
                      clear hJo hX6 hH6 hV6 hC6 hr6 hB6 hb7 hba hB7
                      go_wp2_with fail
                      exact bodyPost_ret (results_cm (p := 8) (u := 9) (t := 10) rfl _ _ (b + 3) _ _ _ _ rfl (hC8.put4 _ _ _ _)) rfl ⟨by rw [HVV.out]; rfl, Below.put4 hB8 (by omega) _ _ _ _⟩
            · have HJ : Hid (F = false → (if l2 = 0 then joinsR al hs e ms (2 + 1) (lacksD ms v0 v1 v2 3) else match joinR e ms ⟨spareV al hs ms (2 : Nat), (2 : Nat), false⟩ with
                  | .ok (e', ms') => some (⟨2, spareV al hs ms (2 : Nat), (2 : Nat), e⟩, e', ms')
                  | .error _ => joinsR al hs e ms (2 + 1) (lacksD ms v0 v1 v2 3)) = J) := fun hF => by
                have := HJ0.out hF
                rw [lacksD_2, joinsR, HO2.out] at this
                exact this
              have hSp := rSpare_any e p n c ms al h0 h1 h2 h3 h4 h5 2 wr hal hrw hn
              have HSV : Hid (rspV al [h0, h1, h2, h3, h4, h5] e ms 2 = spareV al hs ms ((2 : Nat) : Int)) := by unfold Hid; rw [HS.out]; exact rsp_eq hk 2
              rw [HSV.out] at hSp
              have hM := fun W hx => many_any e p n c ms 2 W hx hn
              have hMn := manyN_le ms 2
              have HL2 : Hid (l2 = if ((manyN ms 2 : Nat) : Int) < v2 then v2 - ((manyN ms 2 : Nat) : Int) else 0) := by unfold Hid; rw [← HO2.out]; rfl
              have hJo := fun W hx => rJoin_any e p n c ms ⟨spareV al hs ms ((2 : Nat) : Int), ((2 : Nat) : Int), false⟩ W hx hn
              dsimp only at hJo
              have hsb := spare_err (al := al) (hs := hs) (e := e) (ms := ms) (s := ((2 : Nat) : Int)) hk
              generalize hsp : spareV al hs ms ((2 : Nat) : Int) = sp at *
              generalize manyN ms 2 = x at *
              clear HSV hsp HJ0 hk
              go_wp2_with fail
              refine hSp.mono ?_
              rintro r w5 ⟨rfl, hb5⟩
              have hB5 := hb.trans (hb5.mono (by have := hb.size; omega))
              have hX5 := hX.below hb5
              have hH5 := hH.below hb5
              have hV5 := hV.below hb5
              have hC5 := hC.below hb5
              have hr5 := hrw.below hb5
              obtain ⟨x0, x1⟩ := hX5.two
              obtain ⟨n0, n1, n2⟩ := hV5.three
              clear hSp hX hH hV hC hb hb5 hrw
              cases F with
              | true =>
                go_wp2_with fail
                refine wp_region_quiet_below (by kernel_rfl) (by kernel_rfl) ?_
                repeat (with_reducible refine wpQuiet_step (fun K hK => ?_); go_simp; first | (with_reducible refine hK _ ?_; clear hK K) | (rw [if_neg (by decide)]; with_reducible refine hK _ ?_; clear hK K))
                refine wpQuiet_nil ?_
                intro _ hw'
                obtain ⟨⟨dq, osq⟩, hw''⟩ := hw'
                subst hw''
                have hbq := below_regrown w5 dq osq
                go_wp2_with fail
                go_roundw
                case rel => exact ⟨3, by omega, rfl, (fun h => by cases h), hX5.below hbq, hH5.below hbq, hV5.below hbq, hC5.below hbq, hB5.trans (hbq.mono (by have := hB5.size; omega))⟩
                case measure => simp [intOf]
              | false =>
                have HJ1 := HJ.out rfl
                have HJR : Hid (J = R) := HRJ.out rfl
                by_cases hs0 : sp < 0
                · have HN : Hid (joinsR al hs e ms (2 + 1) (lacksD ms v0 v1 v2 3) = J) := by
                    unfold Hid
                    obtain ⟨er, her⟩ := hsb hs0
                    rw [← HJ1, her]
                    split <;> rfl
                  clear HJ HJ1 hsb hJo
                  go_wp2_with fail
                  refine wp_region_quiet_below (by kernel_rfl) (by kernel_rfl) ?_
                  repeat (with_reducible refine wpQuiet_step (fun K hK => ?_); go_simp; first | (with_reducible refine hK _ ?_; clear hK K) | (rw [if_neg (by decide)]; with_reducible refine hK _ ?_; clear hK K))
                  refine wpQuiet_nil ?_
                  intro _ hw'
                  obtain ⟨⟨dq, osq⟩, hw''⟩ := hw'
                  subst hw''
                  have hbq := below_regrown w5 dq osq
                  go_wp2_with fail
                  go_roundw
                  case rel => exact ⟨3, by omega, rfl, (fun _ => HN.out), hX5.below hbq, hH5.below hbq, hV5.below hbq, hC5.below hbq, hB5.trans (hbq.mono (by have := hB5.size; omega))⟩
                  case measure => simp [intOf]
                · have hsd : decide (sp < 0) = false := decide_eq_false hs0
                  have c1 := fun d os => Calls.regrown_of (hM (Sort.grow (redrawn w5 d) os) (hr5.below (below_regrown w5 d os)))
                  have k0 := cell_regrown x0
                  have k1 := cell_regrown x1
                  have j0 := cell_regrown n0
                  have j1 := cell_regrown n1
                  have j2 := cell_regrown n2
                  by_cases hmv : v2 ≤ (x : Int)
                  · have HN : Hid (joinsR al hs e ms (2 + 1) (lacksD ms v0 v1 v2 3) = J) := by
                      unfold Hid
                      rw [← HJ1, if_pos (by rw [HL2.out, if_neg (by omega)])]
                    have hmd : decide (v2 ≤ (x : Int)) = true := decide_eq_true hmv
                    clear HJ HJ1 hsb hJo hM hs0 x0 x1 n0 n1 n2 hmv
                    go_wp2_with fail
                    refine wp_region_quiet_below (by kernel_rfl) (by kernel_rfl) ?_
                    repeat (quiet_step (first | (go_at_call 11; exact c1 _ _)))
                    refine wpQuiet_nil ?_
                    intro _ hw'
                    obtain ⟨⟨dq, osq⟩, hw''⟩ := hw'
                    subst hw''
                    have hbq := below_regrown w5 dq osq
                    go_wp2_with fail
                    go_roundw
                    case rel => exact ⟨3, by omega, rfl, (fun _ => HN.out), hX5.below hbq, hH5.below hbq, hV5.below hbq, hC5.below hbq, hB5.trans (hbq.mono (by have := hB5.size; omega))⟩
                    case measure => simp [intOf]
                  · rw [if_neg (by rw [HL2.out, if_pos (by omega)]; omega)] at HJ1
                    have hmd : decide (v2 ≤ (x : Int)) = false := decide_eq_false hmv
                    have HJ2 : Hid ((match joinR e ms ⟨sp, ((2 : Nat) : Int), false⟩ with
                      | .ok (e', ms') => some (⟨2, sp, ((2 : Nat) : Int), e⟩, e', ms')
                      | .error _ => joinsR al hs e ms (2 + 1) (lacksD ms v0 v1 v2 3)) = J) := HJ1
                    clear HJ HJ1 hsb hM hs0 x0 x1 n0 n1 n2 hmv
                    go_wp2_with fail
                    refine wp_region_quiet_below (by kernel_rfl) (by kernel_rfl) ?_
                    repeat (quiet_step (first | (go_at_call 11; exact c1 _ _)))
                    refine wpQuiet_nil ?_
                    intro _ hw'
                    obtain ⟨⟨dq, osq⟩, hw''⟩ := hw'
                    subst hw''
                    have hbq := below_regrown w5 dq osq
                    clear c1 k0 k1 j0 j1 j2
                    generalize Sort.grow (redrawn w5 dq) osq = w6 at *
                    have hX6 := hX5.below hbq
                    have hH6 := hH5.below hbq
                    have hV6 := hV5.below hbq
                    have hC6 := hC5.below hbq
                    have hr6 := hr5.below hbq
                    have hB6 := hB5.trans (hbq.mono (by have := hB5.size; omega))
                    obtain ⟨x0, x1⟩ := hX6.two
                    clear hX5 hH5 hV5 hC5 hr5 hB5 hbq
                    cases hcu : joinR e ms ⟨sp, ((2 : Nat) : Int), false⟩ with
                    | error kk =>
                      have HN : Hid (joinsR al hs e ms (2 + 1) (lacksD ms v0 v1 v2 3) = J) := by
                        unfold Hid
                        rw [← HJ2.out, hcu]
                      have hk0 := vjoin_err hcu
                      rw [hcu] at hJo
                      clear HJ2 hcu
                      go_wp2_with fail
                      refine (hJo _ hr6).mono ?_
                      rintro r w7 ⟨x7, rfl, ht7, hb7⟩
                      obtain rfl := ht7
                      have hba := below_alloc w7 (.cells #[.int .i64 0, .slice none 0 0] 28)
                      have hB7 := hB6.trans (hb7.mono (by have := hB6.size; omega))
                      clear hJo
                      go_wp2_with fail
                      go_roundw
                      case rel => exact ⟨3, by omega, rfl, (fun _ => HN.out), (hX6.below hb7).below hba, (hH6.below hb7).below hba, (hV6.below hb7).below hba, (hC6.below hb7).below hba, hB7.trans (hba.mono (by have := hB7.size; omega))⟩
                      case measure => simp [intOf]
                    | ok em =>
                      obtain ⟨e2, ms2⟩ := em
                      have HN : Hid (J = some (⟨2, sp, ((2 : Nat) : Int), e⟩, e2, ms2)) := by
                        unfold Hid
                        rw [← HJ2.out, hcu]
                      have HR1 : Hid (R = some (⟨2, sp, 2, e⟩, e2, ms2)) := by unfold Hid; rw [← HJR.out, HN.out]; rfl
                      have HVV : Hid (okV R = .tuple #[.agg #[.int .i64 2, .int .i64 sp, .int .i64 2, .int .i64 e], .bool true, .int .i64 0]) := by unfold Hid; rw [HR1.out]; rfl
                      rw [hcu] at hJo
                      clear HJ2 hcu HN HR1
                      go_wp2_with fail
                      refine (hJo _ hr6).mono ?_
                      rintro r w7 ⟨x7, rfl, ht7, hb7⟩
                      obtain ⟨q7, c7, rfl, _, _⟩ := ht7
                      have hba := below_alloc w7 (.cells #[.int .i64 e2, .slice q7 ms2.length c7] 28)
                      have hB7 := hB6.trans (hb7.mono (by have := hB6.size; omega))
                      have hB8 := hB7.trans (hba.mono (by have := hB7.size; omega))
                      have hC8 := (hC6.below hb7).below hba
                      obtain ⟨x0, x1⟩ := ((hX6.below hb7).below hba).two
                      obtain ⟨c0, c1, c2, c3⟩ := hC8.four
                      obtain ⟨f0, f1, f2, f3⟩ := hC8.free4
                      clear hJo hX6 hH6 hV6 hC6 hr6 hB6 hb7 hba hB7
                      go_wp2_with fail
                      exact bodyPost_ret (results_cm (p := 8) (u := 9) (t := 10) rfl _ _ (b + 3) _ _ _ _ rfl (hC8.put4 _ _ _ _)) rfl ⟨by rw [HVV.out]; rfl, Below.put4 hB8 (by omega) _ _ _ _⟩
          · have HVV : Hid (okV R = .tuple #[.agg #[.int .i64 0, .int .i64 0, .int .i64 0, .int .i64 0], .bool false, .int .i64 0]) := by
              unfold Hid
              cases hF : F with
              | true => rw [HRT.out hF]; rfl
              | false =>
                have h3 : k = 3 := by omega
                have := HJ0.out hF
                rw [h3, lacksD_3] at this
                rw [← HRJ.out hF, ← this]
                rfl
            obtain ⟨c0, c1, c2, c3⟩ := hC.four
            obtain ⟨f0, f1, f2, f3⟩ := hC.free4
            clear HJ0 hrw hX hH hV
            go_wp2_with fail
            exact bodyPost_ret (results_cm (p := 8) (u := 9) (t := 10) rfl _ _ (b + 3) _ _ _ _ rfl (hC.put4 _ _ _ _)) rfl ⟨by rw [HVV.out]; rfl, Below.put4 hb (by omega) _ _ _ _⟩

end Go.Proofs.YtigojnpjpagfjaaDoor.M

namespace Go.Proofs.YtigojnpjpagfjaaDoor.M
open Go.ChangeShapes Go.WideShapes Go.ChangeAt Go.RowKit

theorem pnV_shape (al : Nat) (hs vs : List Int) (e : Int) (ms : List Mb) : ∃ (a b c d : Int) (o : Bool) (E : Int), pnV al hs vs e ms = .tuple #[.agg #[.int .i64 a, .int .i64 b, .int .i64 c, .int .i64 d], .bool o, .int .i64 E] := by
  unfold pnV okV
  repeat' split
  all_goals exact ⟨_, _, _, _, _, _, rfl⟩

set_option maxRecDepth 20000 in
set_option maxHeartbeats 4000000 in
theorem walk_PlanNext (w : World) (ht : Tab w) (e : Int) (p : Option Addr) (n c : Nat) (ms : List Mb) (hr : RdM w p n c ms) (al : Nat) (hal : al < 18446744073709551616) (h0 h1 h2 h3 h4 h5 v0 v1 v2 : Int) (hv : (v0 ≤ 9223372036854775807 ∧ v1 ≤ 9223372036854775807) ∧ v2 ≤ 9223372036854775807) :
    Calls Tryd.prog 4 #[.agg #[.int .i64 e, .slice p n c], .int .u64 (al : Int), .agg #[.int .i64 h0, .int .i64 h1, .int .i64 h2, .int .i64 h3, .int .i64 h4, .int .i64 h5], .agg #[.int .i64 v0, .int .i64 v1, .int .i64 v2]] w fun r w' => r = .returned (.bool true) ∧ Below w.heap.size w w' := by
  have hb0 : Below w.heap.size w (((w.alloc (.cells #[.int .i64 e, .slice p n c] 28)).alloc (.cells #[.int .i64 h0, .int .i64 h1, .int .i64 h2, .int .i64 h3, .int .i64 h4, .int .i64 h5] 23)).alloc (.cells #[.int .i64 v0, .int .i64 v1, .int .i64 v2] 25)) := (((Below.refl _ _).alloc (Nat.le_refl _) _).alloc (by simp) _).alloc (by simp; omega) _
  have hX : At 28 (((w.alloc (.cells #[.int .i64 e, .slice p n c] 28)).alloc (.cells #[.int .i64 h0, .int .i64 h1, .int .i64 h2, .int .i64 h3, .int .i64 h4, .int .i64 h5] 23)).alloc (.cells #[.int .i64 v0, .int .i64 v1, .int .i64 v2] 25)) w.heap.size #[.int .i64 e, .slice p n c] := ((At.new 28 w _).alloc _).alloc _
  have hH : At 23 (((w.alloc (.cells #[.int .i64 e, .slice p n c] 28)).alloc (.cells #[.int .i64 h0, .int .i64 h1, .int .i64 h2, .int .i64 h3, .int .i64 h4, .int .i64 h5] 23)).alloc (.cells #[.int .i64 v0, .int .i64 v1, .int .i64 v2] 25)) (w.heap.size + 1) #[.int .i64 h0, .int .i64 h1, .int .i64 h2, .int .i64 h3, .int .i64 h4, .int .i64 h5] := At.moved (by simp) ((At.new 23 _ _).alloc _)
  have hV : At 25 (((w.alloc (.cells #[.int .i64 e, .slice p n c] 28)).alloc (.cells #[.int .i64 h0, .int .i64 h1, .int .i64 h2, .int .i64 h3, .int .i64 h4, .int .i64 h5] 23)).alloc (.cells #[.int .i64 v0, .int .i64 v1, .int .i64 v2] 25)) (w.heap.size + 2) #[.int .i64 v0, .int .i64 v1, .int .i64 v2] := At.moved (by simp) (At.new 25 _ _)
  have hr0 := hr.below hb0
  have ht0 := ht.below hb0
  have hA := fun W hx => awake_any W hx
  generalize hw : w.heap.size = b at *
  obtain ⟨x0, x1⟩ := hX.two
  obtain ⟨m0, m1, m2, m3, m4, m5⟩ := hH.six
  obtain ⟨n0, n1, n2⟩ := hV.three
  by_cases hn60 : 60 < n
  · have hni : (60 : Int) < (n : Int) := by omega
    clear hr hr0
    go_enter Tryd.func4, Tryd.ntmps4
    go_wp2_with fail
    refine (hA _ ht0).mono ?_
    rintro r w1 ⟨rfl, hb1⟩
    go_wp2_with fail
    go_ret
    exact ⟨rfl, hb0.trans (hb1.mono (by have := hb0.size; omega))⟩
  have hni : ¬ (60 : Int) < (n : Int) := by omega
  have hn : n ≤ 5864062014805 := by omega
  have hG := pNext_any e p n c ms al h0 h1 h2 h3 h4 h5 v0 v1 v2 hv _ hal hr0 hn ht0
  have hG2 := fun W hx => rNext_any e p n c ms al h0 h1 h2 h3 h4 h5 v0 v1 v2 W hal hx hn
  obtain ⟨ca, cb, cc, cd, co, cE, hpn⟩ := pnV_shape al [h0, h1, h2, h3, h4, h5] [v0, v1, v2] e ms
  rw [hpn] at hG hG2
  clear hr hpn
  go_enter Tryd.func4, Tryd.ntmps4
  go_wp2_with fail
  refine hG.mono ?_
  rintro r w1 ⟨rfl, hb1⟩
  have hB1 := hb0.trans (hb1.mono (by have := hb0.size; omega))
  have hba := below_alloc w1 (.cells #[.int .i64 ca, .int .i64 cb, .int .i64 cc, .int .i64 cd] 37)
  have hB2 := hB1.trans (hba.mono (by have := hB1.size; omega))
  have ht2 := (ht0.below hb1).below hba
  have hr2 := (hr0.below hb1).below hba
  have hP := At.new 37 w1 #[.int .i64 ca, .int .i64 cb, .int .i64 cc, .int .i64 cd]
  obtain ⟨x0, x1⟩ := ((hX.below hb1).below hba).two
  obtain ⟨m0, m1, m2, m3, m4, m5⟩ := ((hH.below hb1).below hba).six
  obtain ⟨n0, n1, n2⟩ := ((hV.below hb1).below hba).three
  clear hG hb0 hb1 hba hB1 ht0 hr0 hX hH hV
  go_wp2_with fail
  refine (hG2 _ hr2).mono ?_
  rintro r w3 ⟨rfl, hb3⟩
  have hba := below_alloc w3 (.cells #[.int .i64 ca, .int .i64 cb, .int .i64 cc, .int .i64 cd] 37)
  have hB3 := hB2.trans (hb3.mono (by have := hB2.size; omega))
  have hB4 := hB3.trans (hba.mono (by have := hB3.size; omega))
  have ht4 := (ht2.below hb3).below hba
  obtain ⟨p0, p1, p2, p3⟩ := ((hP.below hb3).below hba).four
  obtain ⟨q0, q1, q2, q3⟩ := (At.new 37 w3 #[.int .i64 ca, .int .i64 cb, .int .i64 cc, .int .i64 cd]).four
  clear hG2 hB2 hb3 hba hB3 ht2 hr2 hP x0 x1 m0 m1 m2 m3 m4 m5 n0 n1 n2
  go_wp2_with fail
  refine (hA _ ht4).mono ?_
  rintro r w5 ⟨rfl, hb5⟩
  go_wp2_with fail
  go_ret
  exact ⟨rfl, hB4.trans (hb5.mono (by have := hB4.size; omega))⟩

end Go.Proofs.YtigojnpjpagfjaaDoor.M
