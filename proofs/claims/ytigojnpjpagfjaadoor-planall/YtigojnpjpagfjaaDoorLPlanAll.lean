/-
  Own text: the document's Next of plans.
  Own text: the document's All of plans.
  Own text: the walk of the statement 'PlanAll'.
-/
import Derived.Test.YtigojnpjpagfjaaDoorVRef
namespace Go.Proofs.YtigojnpjpagfjaaDoor.M
open Go.ChangeShapes Go.WideShapes Go.ChangeAt Go.RowKit

theorem cut_doc (nd e : Int) (ms : List Mb) : rcutR (kpM nd (-1)) e ms = cutR (fun y => y.n == nd) e ms := cut_eq _ _ e ms (fun m hm => by
  have := (isMb_iff m).1 hm
  unfold kpM
  have h : (m.s == -1) = false := by simp; omega
  rw [h]
  simp)

/-- What sites lack, from the k-th on. -/
def lacksD (ms : List Mb) (v0 v1 v2 : Int) (k : Nat) : List Int := (lacksL ms [v0, v1, v2]).drop k

theorem lacksD_0 (ms : List Mb) (v0 v1 v2 : Int) : lacksD ms v0 v1 v2 0 = lackV ms v0 0 :: lacksD ms v0 v1 v2 1 := rfl
theorem lacksD_1 (ms : List Mb) (v0 v1 v2 : Int) : lacksD ms v0 v1 v2 1 = lackV ms v1 1 :: lacksD ms v0 v1 v2 2 := rfl
theorem lacksD_2 (ms : List Mb) (v0 v1 v2 : Int) : lacksD ms v0 v1 v2 2 = lackV ms v2 2 :: lacksD ms v0 v1 v2 3 := rfl
theorem lacksD_3 (ms : List Mb) (v0 v1 v2 : Int) : lacksD ms v0 v1 v2 3 = [] := rfl

theorem spare_err {al : Nat} {hs : List Int} {e : Int} {ms : List Mb} {s : Int} (hc : chk e ms = true) (h : spareV al hs ms s < 0) : ∃ er, joinR e ms ⟨spareV al hs ms s, s, false⟩ = .error er := by
  refine ⟨81, ?_⟩
  unfold joinR
  have hm : isMb ⟨spareV al hs ms s, s, false⟩ = false := by
    unfold isMb
    rw [decide_eq_false (by show ¬ 0 ≤ spareV al hs ms s; omega)]
    rfl
  rw [hc, hm]
  rfl

/-- All have all, if nobody is fresh; else not. -/
theorem whole_iff {e : Int} {ms : List Mb} (hc : chk e ms = true) : (thN (fun m => !m.f) 0 ms = thN (fun _ => true) 0 ms) ↔ (ms.any fun m => m.f) = false := by
  obtain ⟨_, _, _, hg⟩ := (chk_iff e ms).1 hc
  constructor
  · intro h
    cases ha : ms.any (fun m => m.f) with
    | false => rfl
    | true =>
      exfalso
      obtain ⟨x, hx, hf⟩ := List.any_eq_true.1 ha
      have hb := (isMb_iff x).1 (hg.1 x hx)
      obtain ⟨j, hj⟩ := Int.eq_ofNat_of_zero_le hb.1
      have hj64 : j < 64 := by omega
      have h1 := thN_test (fun _ => true) j hj64 ms 0
      have h2 := thN_test (fun m => !m.f) j hj64 ms 0
      rw [h, h1] at h2
      have h3 : (ms.any fun m => true && m.n == (j : Int)) = true := List.any_eq_true.2 ⟨x, hx, by rw [hj]; simp⟩
      rw [h3, Bool.or_true] at h2
      have h4 : (ms.any fun m => !m.f && m.n == (j : Int)) = true := by simpa using h2.symm
      obtain ⟨y, hy, hy2⟩ := List.any_eq_true.1 h4
      simp only [Bool.and_eq_true, Bool.not_eq_true', beq_iff_eq] at hy2
      have hxy : x = y := by
        rcases List.mem_iff_getElem.1 hx with ⟨i, hi, rfl⟩
        rcases List.mem_iff_getElem.1 hy with ⟨i2, hi2, rfl⟩
        rcases Nat.lt_trichotomy i i2 with h5 | h5 | h5
        · exact absurd (hj.trans hy2.2.symm) ((List.pairwise_iff_getElem.1 hg.2 i i2 hi hi2 h5).1)
        · subst h5; rfl
        · exact absurd (hy2.2.trans hj.symm) ((List.pairwise_iff_getElem.1 hg.2 i2 i hi2 hi h5).1)
      rw [hxy, hy2.1] at hf
      cases hf
  · intro h
    have key : ∀ (l : List Mb) (x : Nat), (l.any fun m => m.f) = false → thN (fun m => !m.f) x l = thN (fun _ => true) x l := by
      intro l
      induction l with
      | nil => intro x _; rfl
      | cons a l ih =>
        intro x hh
        rw [List.any_cons, Bool.or_eq_false_iff] at hh
        unfold thN
        rw [hh.1]
        simp only [Bool.not_false, if_true]
        exact ih _ hh.2
    exact key ms 0 h

theorem take_any {ms : List Mb} {k : Nat} (h : k < ms.length) : ((ms.take (k + 1)).any fun m => m.f) = (((ms.take k).any fun m => m.f) || (ms.getD k .z0).f) := by
  rw [take_snoc_mb h, List.any_append]
  simp

set_option maxRecDepth 20000 in
set_option maxHeartbeats 8000000 in
theorem rNext_any (e : Int) (p : Option Addr) (n c : Nat) (ms : List Mb) (al : Nat) (h0 h1 h2 h3 h4 h5 v0 v1 v2 : Int) (w : World) (hal : al < 18446744073709551616) (hr : RdM w p n c ms) (hn : n ≤ 5864062014805) :
    Calls Tryd.prog 15 #[.agg #[.int .i64 e, .slice p n c], .int .u64 (al : Int), .agg #[.int .i64 h0, .int .i64 h1, .int .i64 h2, .int .i64 h3, .int .i64 h4, .int .i64 h5], .agg #[.int .i64 v0, .int .i64 v1, .int .i64 v2]] w fun r w' => r = .returned (pnV al [h0, h1, h2, h3, h4, h5] [v0, v1, v2] e ms) ∧ Below w.heap.size w w' := by
  have hb0 : Below w.heap.size w ((((w.alloc (.cells #[.int .i64 e, .slice p n c] 28)).alloc (.cells #[.int .i64 h0, .int .i64 h1, .int .i64 h2, .int .i64 h3, .int .i64 h4, .int .i64 h5] 23)).alloc (.cells #[.int .i64 v0, .int .i64 v1, .int .i64 v2] 25)).alloc (.cells #[.int .i64 0, .int .i64 0, .int .i64 0, .int .i64 0] 37)) := ((((Below.refl _ _).alloc (Nat.le_refl _) _).alloc (by simp) _).alloc (by simp; omega) _).alloc (by simp; omega) _
  have hX : At 28 ((((w.alloc (.cells #[.int .i64 e, .slice p n c] 28)).alloc (.cells #[.int .i64 h0, .int .i64 h1, .int .i64 h2, .int .i64 h3, .int .i64 h4, .int .i64 h5] 23)).alloc (.cells #[.int .i64 v0, .int .i64 v1, .int .i64 v2] 25)).alloc (.cells #[.int .i64 0, .int .i64 0, .int .i64 0, .int .i64 0] 37)) w.heap.size #[.int .i64 e, .slice p n c] := (((At.new 28 w _).alloc _).alloc _).alloc _
  have hH : At 23 ((((w.alloc (.cells #[.int .i64 e, .slice p n c] 28)).alloc (.cells #[.int .i64 h0, .int .i64 h1, .int .i64 h2, .int .i64 h3, .int .i64 h4, .int .i64 h5] 23)).alloc (.cells #[.int .i64 v0, .int .i64 v1, .int .i64 v2] 25)).alloc (.cells #[.int .i64 0, .int .i64 0, .int .i64 0, .int .i64 0] 37)) (w.heap.size + 1) #[.int .i64 h0, .int .i64 h1, .int .i64 h2, .int .i64 h3, .int .i64 h4, .int .i64 h5] := At.moved (by simp) (((At.new 23 _ _).alloc _).alloc _)
  have hV : At 25 ((((w.alloc (.cells #[.int .i64 e, .slice p n c] 28)).alloc (.cells #[.int .i64 h0, .int .i64 h1, .int .i64 h2, .int .i64 h3, .int .i64 h4, .int .i64 h5] 23)).alloc (.cells #[.int .i64 v0, .int .i64 v1, .int .i64 v2] 25)).alloc (.cells #[.int .i64 0, .int .i64 0, .int .i64 0, .int .i64 0] 37)) (w.heap.size + 2) #[.int .i64 v0, .int .i64 v1, .int .i64 v2] := At.moved (by simp) ((At.new 25 _ _).alloc _)
  have hC : At 37 ((((w.alloc (.cells #[.int .i64 e, .slice p n c] 28)).alloc (.cells #[.int .i64 h0, .int .i64 h1, .int .i64 h2, .int .i64 h3, .int .i64 h4, .int .i64 h5] 23)).alloc (.cells #[.int .i64 v0, .int .i64 v1, .int .i64 v2] 25)).alloc (.cells #[.int .i64 0, .int .i64 0, .int .i64 0, .int .i64 0] 37)) (w.heap.size + 3) #[.int .i64 0, .int .i64 0, .int .i64 0, .int .i64 0] := At.moved (by simp) (At.new 37 _ _)
  have hr0 := hr.below hb0
  have hCk := rCheck_any e p n c ms _ hr0 hn
  have hPc := fun W => rpCheck_any h0 h1 h2 h3 h4 h5 v0 v1 v2 W
  unfold chkV at hCk
  unfold planV at hPc
  generalize hw : w.heap.size = b at *
  obtain ⟨x0, x1⟩ := hX.two
  cases hk : chk e ms with
  | false =>
    have HR : Hid (pnV al [h0, h1, h2, h3, h4, h5] [v0, v1, v2] e ms = .tuple #[.agg #[.int .i64 0, .int .i64 0, .int .i64 0, .int .i64 0], .bool false, .int .i64 80]) := by unfold Hid pnV; rw [hk]; rfl
    rw [HR.out]
    rw [hk] at hCk
    simp only [Bool.false_eq_true, if_false] at hCk
    clear hk hr hr0 HR hPc
    go_enter Tryd.func15, Tryd.ntmps15
    go_wp2_with fail
    refine hCk.mono ?_
    rintro r w1 ⟨rfl, hb1⟩
    have hB1 := hb0.trans (hb1.mono (by have := hb0.size; omega))
    have hC1 := hC.below hb1
    obtain ⟨c0, c1, c2, c3⟩ := hC1.four
    obtain ⟨f0, f1, f2, f3⟩ := hC1.free4
    clear hCk hC hb0 hb1
    go_wp2_with fail
    exact bodyPost_ret (results_cm (p := 8) (u := 9) (t := 10) rfl _ _ (b + 3) _ _ _ _ rfl (hC1.put4 _ _ _ _)) rfl ⟨rfl, Below.put4 hB1 (by omega) _ _ _ _⟩
  | true =>
  rw [hk] at hCk
  simp only [if_true] at hCk
  cases hpc : planC [h0, h1, h2, h3, h4, h5] [v0, v1, v2] with
  | false =>
    have HR : Hid (pnV al [h0, h1, h2, h3, h4, h5] [v0, v1, v2] e ms = .tuple #[.agg #[.int .i64 0, .int .i64 0, .int .i64 0, .int .i64 0], .bool false, .int .i64 1]) := by unfold Hid pnV; rw [hk, hpc]; rfl
    rw [HR.out]
    rw [hpc] at hPc
    simp only [Bool.false_eq_true, if_false] at hPc
    clear hk hr hr0 HR hpc
    go_enter Tryd.func15, Tryd.ntmps15
    go_wp2_with fail
    refine hCk.mono ?_
    rintro r w1 ⟨rfl, hb1⟩
    have hB1 := hb0.trans (hb1.mono (by have := hb0.size; omega))
    have hC1 := hC.below hb1
    obtain ⟨m0, m1, m2, m3, m4, m5⟩ := (hH.below hb1).six
    obtain ⟨n0, n1, n2⟩ := (hV.below hb1).three
    clear hCk hC hb0 hb1 hH hV
    go_wp2_with fail
    refine (hPc _).mono ?_
    rintro r w2 ⟨rfl, hb2⟩
    have hB2 := hB1.trans (hb2.mono (by have := hB1.size; omega))
    have hC2 := hC1.below hb2
    obtain ⟨c0, c1, c2, c3⟩ := hC2.four
    obtain ⟨f0, f1, f2, f3⟩ := hC2.free4
    clear hPc hC1 hB1 hb2
    go_wp2_with fail
    exact bodyPost_ret (results_cm (p := 8) (u := 9) (t := 10) rfl _ _ (b + 3) _ _ _ _ rfl (hC2.put4 _ _ _ _)) rfl ⟨rfl, Below.put4 hB2 (by omega) _ _ _ _⟩
  | true =>
    rw [hpc] at hPc
    simp only [if_true] at hPc
    obtain ⟨R, HR⟩ : ∃ x, Hid (nextR al [h0, h1, h2, h3, h4, h5] [v0, v1, v2] e ms = x) := ⟨_, rfl⟩
    have HPV : Hid (pnV al [h0, h1, h2, h3, h4, h5] [v0, v1, v2] e ms = okV R) := by unfold Hid pnV; rw [hk, hpc, HR.out]; rfl
    rw [HPV.out]
    have hgm := ((chk_iff e ms).1 hk).2.2.2.1
    have hF := fun W => from_any al W hal
    have hbl := bitL_len al
    have hget : ∀ k, k < 64 → (bitL al).getD k false = al.testBit k := fun k hk => bitL_get al hk
    have hOne := bools_one (bitL al)
    have hInf := info_set (bitL al) hbl
    have HML : Hid (ms.length = n) := hr.len
    clear HPV hpc
    generalize bitL al = bs at *
    obtain ⟨hs, HS⟩ : ∃ l : List Int, Hid (l = [h0, h1, h2, h3, h4, h5]) := ⟨_, rfl⟩
    rw [← HS.out] at HR
    go_enter Tryd.func15, Tryd.ntmps15
    go_wp2_with fail
    refine hCk.mono ?_
    rintro r w1 ⟨rfl, hb1⟩
    have hB1 := hb0.trans (hb1.mono (by have := hb0.size; omega))
    have hX1 := hX.below hb1
    have hH1 := hH.below hb1
    have hV1 := hV.below hb1
    have hC1 := hC.below hb1
    obtain ⟨m0, m1, m2, m3, m4, m5⟩ := hH1.six
    obtain ⟨n0, n1, n2⟩ := hV1.three
    clear hCk hX hH hV hC hb0 hb1 hr0 x0 x1
    go_wp2_with fail
    refine (hPc _).mono ?_
    rintro r w2 ⟨rfl, hb2⟩
    have hB2 := hB1.trans (hb2.mono (by have := hB1.size; omega))
    have hX2 := hX1.below hb2
    have hH2 := hH1.below hb2
    have hV2 := hV1.below hb2
    have hC2 := hC1.below hb2
    clear hPc hX1 hH1 hV1 hC1 hB1 hb2 m0 m1 m2 m3 m4 m5 n0 n1 n2
    go_wp2_with fail
    refine (hF _).mono ?_
    rintro r w3 ⟨rfl, hb3⟩
    have hzy : (bools (List.replicate 64 false)).size = (bools bs).size := by rw [bools_size, bools_size, hbl]; rfl
    have hY1 : Arr (w3.alloc (.cells (bools (List.replicate 64 false)) 78)) w3.heap.size (List.replicate 64 false) := heap_alloc_new _ _
    have hY2 := hY1.setRow bs
    have hbt : Below w3.heap.size w3 ((w3.alloc (.cells (bools (List.replicate 64 false)) 78)).setRow w3.heap.size (bools bs)) := ((Below.refl _ _).alloc (Nat.le_refl _) _).trans (below_setRow _ _ _ (Nat.le_refl _))
    have hX3 := (hX2.below hb3).below hbt
    have hH3 := (hH2.below hb3).below hbt
    have hV3 := (hV2.below hb3).below hbt
    have hC3 := (hC2.below hb3).below hbt
    have hB3' := hB2.trans (hb3.mono (by have := hB2.size; omega))
    have hB3 := hB3'.trans (hbt.mono (by have := hB3'.size; omega))
    obtain ⟨x0, x1⟩ := hX3.two
    clear hF hbt hb3 hB2 hB3' hX2 hH2 hV2 hC2
    generalize hob : Obj.cells (bools (List.replicate 64 false)) 78 = ob at hY1 hY2 hX3 hH3 hV3 hC3 hB3 x0 x1
    rw [zero64] at hob
    subst hob
    go_wp2_with (refine wpList_store_row rfl 78 _ _ rfl w3.heap.size (bools bs) rfl rfl _ _ hY1 hInf hzy hOne ?_)
    clear hY1
    generalize (w3.alloc _).setRow w3.heap.size (bools bs) = w4 at hY2 hX3 hH3 hV3 hC3 hB3 x0 x1 ⊢
    generalize w3.heap.size = G at *
    (try go_wp2_with fail)
    go_loopw [12, 35] (fun fv i wr => ∃ (k : Nat) (F : Bool), k ≤ n ∧ i = .int .i64 k ∧ fv = .bool F ∧ Hid (F = (ms.take k).any fun m => m.f) ∧ Hid (deadR al e ms (ms.drop k) = deadR al e ms ms) ∧ Arr wr G bs ∧ At 28 wr b #[.int .i64 e, .slice p n c] ∧ At 23 wr (b + 1) #[.int .i64 h0, .int .i64 h1, .int .i64 h2, .int .i64 h3, .int .i64 h4, .int .i64 h5] ∧ At 25 wr (b + 2) #[.int .i64 v0, .int .i64 v1, .int .i64 v2] ∧ At 37 wr (b + 3) #[.int .i64 0, .int .i64 0, .int .i64 0, .int .i64 0] ∧ Below b w wr) (fun _ i _ => n - (intOf i).toNat)
    case atStart => exact ⟨0, false, Nat.zero_le _, rfl, rfl, rfl, rfl, hY2, hX3, hH3, hV3, hC3, hB3⟩
    case round =>
      clear hY2 hX3 hH3 hV3 hC3 hB3 x0 x1
      obtain ⟨k, F, hkn, rfl, rfl, HF, HD, hA, hX, hH, hV, hC, hb⟩ := hrel
      have hrw := hr.below (by rw [hw]; exact hb)
      obtain ⟨x0, x1⟩ := hX.two
      by_cases h : k < n
      · obtain ⟨bb, o, rfl, hc⟩ := hrw.cells (by omega)
        obtain ⟨g1, g2, g3⟩ := hc k h
        have hkl : k < ms.length := by rw [HML.out]; exact h
        have hd := drop_mb (fs := ms) (k := k) hkl
        have hta := take_any hkl
        have hmb := (isMb_iff _).1 (hgm _ (getD_mb hkl))
        have hD := HD.out
        rw [hd, deadR] at hD
        rw [← HF.out] at hta
        clear hc HD hd HF hr
        generalize ms.getD k .z0 = m at *
        obtain ⟨mn, msi, mf⟩ := m
        dsimp only at g1 g2 g3 hD hta hmb
        obtain ⟨hm0, hm5, _, _⟩ := hmb
        obtain ⟨j, rfl⟩ := Int.eq_ofNat_of_zero_le hm0
        have hj64 : j < 64 := by omega
        have y0 := hA.cell (i := j) (by rw [hbl]; exact hj64)
        rw [hget j hj64] at y0
        have hhas : hasN al (j : Int) = al.testBit j := by unfold hasN; rw [decide_eq_true (by omega), Int.toNat_natCast]; rfl
        rw [hhas] at hD
        have hba := below_alloc wr (.cells #[.int .i64 (j : Int), .int .i64 msi, .bool mf] 45)
        have hM := At.new 45 wr #[.int .i64 (j : Int), .int .i64 msi, .bool mf]
        have hB := hb.trans (hba.mono (by have := hb.size; omega))
        have hA2 := hA.below hba
        have hX2 := hX.below hba
        have hH2 := hH.below hba
        have hV2 := hV.below hba
        have hC2 := hC.below hba
        have hr2 := hrw.below hba
        have y0b := cell_bel0 hba y0
        have hCu := fun W hx => rCut_any e (some ⟨bb, o, none⟩) n c ms (j : Int) (-1) W hx hn
        rw [cut_doc] at hCu
        obtain ⟨x0, x1⟩ := hX2.two
        obtain ⟨F2, HF2⟩ : ∃ z : Bool, Hid ((F || mf) = z) := ⟨_, rfl⟩
        have HFn : Hid (F2 = (ms.take (k + 1)).any fun m => m.f) := by unfold Hid; rw [hta, HF2.out]
        clear hba hA hX hH hV hC hb hrw hget hhas hta y0
        cases hcu : cutR (fun y => y.n == (j : Int)) e ms with
        | error kk =>
          have HD : Hid (deadR al e ms (ms.drop (k + 1)) = deadR al e ms ms) := by
            unfold Hid
            rw [hcu] at hD
            split at hD <;> exact hD
          have hk0 := vcut_err hcu
          rw [hcu] at hCu
          clear hD hcu y0b
          go_wp2_with fail
          refine (hCu _ hr2).mono ?_
          rintro r w5 ⟨x5, rfl, ht5, hb5⟩
          obtain rfl := ht5
          have hba := below_alloc w5 (.cells #[.int .i64 0, .slice none 0 0] 28)
          have hB5 := hB.trans (hb5.mono (by have := hB.size; omega))
          have hB6 := hB5.trans (hba.mono (by have := hB5.size; omega))
          obtain ⟨p0, p1, p2⟩ := ((hM.below hb5).below hba).three
          have hA6 := (hA2.below hb5).below hba
          have hX6 := (hX2.below hb5).below hba
          have hH6 := (hH2.below hb5).below hba
          have hV6 := (hV2.below hb5).below hba
          have hC6 := (hC2.below hb5).below hba
          have hF2 := HF2.out
          clear hCu hA2 hX2 hH2 hV2 hC2 hM hB hB5 hb5 hba hr2 g1 g2 g3 x0 x1 HF2
          cases F with
          | true =>
            obtain rfl : true = F2 := by rw [← hF2]; rfl
            clear hF2
            go_wp2_with fail
            go_roundw
            case rel => exact ⟨k + 1, true, by omega, by go_num, rfl, HFn, HD, hA6, hX6, hH6, hV6, hC6, hB6⟩
            case measure => simp [intOf]; omega
          | false =>
            obtain rfl : mf = F2 := by rw [← hF2]; rfl
            clear hF2
            go_wp2_with fail
            go_roundw
            case rel => exact ⟨k + 1, mf, by omega, by go_num, rfl, HFn, HD, hA6, hX6, hH6, hV6, hC6, hB6⟩
            case measure => simp [intOf]; omega
        | ok em =>
          obtain ⟨e2, ms2⟩ := em
          rw [hcu] at hCu hD
          cases hbit : al.testBit j with
          | true =>
            have HD : Hid (deadR al e ms (ms.drop (k + 1)) = deadR al e ms ms) := by
              unfold Hid
              rw [hbit, if_pos rfl] at hD
              exact hD
            rw [hbit] at y0b
            clear hD hcu hbit
            go_wp2_with fail
            refine (hCu _ hr2).mono ?_
            rintro r w5 ⟨x5, rfl, ht5, hb5⟩
            obtain ⟨q5, c5, rfl, _, _⟩ := ht5
            have hba := below_alloc w5 (.cells #[.int .i64 e2, .slice q5 ms2.length c5] 28)
            have hB5 := hB.trans (hb5.mono (by have := hB.size; omega))
            have hB6 := hB5.trans (hba.mono (by have := hB5.size; omega))
            obtain ⟨p0, p1, p2⟩ := ((hM.below hb5).below hba).three
            have y0c := cell_bel0 hba (cell_bel0 hb5 y0b)
            have hA6 := (hA2.below hb5).below hba
            have hX6 := (hX2.below hb5).below hba
            have hH6 := (hH2.below hb5).below hba
            have hV6 := (hV2.below hb5).below hba
            have hC6 := (hC2.below hb5).below hba
            have hF2 := HF2.out
            clear hCu hA2 hX2 hH2 hV2 hC2 hM hB hB5 hb5 hba hr2 g1 g2 g3 x0 x1 HF2 y0b
            cases F with
            | true =>
              obtain rfl : true = F2 := by rw [← hF2]; rfl
              clear hF2
              go_wp2_with fail
              go_roundw
              case rel => exact ⟨k + 1, true, by omega, by go_num, rfl, HFn, HD, hA6, hX6, hH6, hV6, hC6, hB6⟩
              case measure => simp [intOf]; omega
            | false =>
              obtain rfl : mf = F2 := by rw [← hF2]; rfl
              clear hF2
              go_wp2_with fail
              go_roundw
              case rel => exact ⟨k + 1, mf, by omega, by go_num, rfl, HFn, HD, hA6, hX6, hH6, hV6, hC6, hB6⟩
              case measure => simp [intOf]; omega
          | false =>
            have HVV : Hid (okV R = .tuple #[.agg #[.int .i64 1, .int .i64 (j : Int), .int .i64 0, .int .i64 e], .bool true, .int .i64 0]) := by
              unfold Hid
              rw [hbit, if_neg (by decide)] at hD
              rw [← HR.out]
              unfold nextR
              rw [← hD]
              rfl
            rw [hbit] at y0b
            clear hD hcu hbit
            go_wp2_with fail
            refine (hCu _ hr2).mono ?_
            rintro r w5 ⟨x5, rfl, ht5, hb5⟩
            obtain ⟨q5, c5, rfl, _, _⟩ := ht5
            have hba := below_alloc w5 (.cells #[.int .i64 e2, .slice q5 ms2.length c5] 28)
            have hB5 := hB.trans (hb5.mono (by have := hB.size; omega))
            have hB6 := hB5.trans (hba.mono (by have := hB5.size; omega))
            obtain ⟨p0, p1, p2⟩ := ((hM.below hb5).below hba).three
            have y0c := cell_bel0 hba (cell_bel0 hb5 y0b)
            obtain ⟨x0, x1⟩ := ((hX2.below hb5).below hba).two
            have hC6 := (hC2.below hb5).below hba
            obtain ⟨c0, c1, c2, c3⟩ := hC6.four
            obtain ⟨f0, f1, f2, f3⟩ := hC6.free4
            clear hCu hA2 hX2 hH2 hV2 hC2 hM hB hB5 hb5 hba hr2 g1 g2 g3 HF2 y0b
            go_wp2_with fail
            exact bodyPost_ret (results_cm (p := 8) (u := 9) (t := 10) rfl _ _ (b + 3) _ _ _ _ rfl (hC6.put4 _ _ _ _)) rfl ⟨by rw [HVV.out]; rfl, Below.put4 hB6 (by omega) _ _ _ _⟩
      · have hDn : deadR al e ms ms = none := by rw [← HD.out, List.drop_of_length_le (by rw [HML.out]; omega)]; rfl
        have hFf : F = ms.any fun m => m.f := by rw [HF.out, List.take_of_length_le (by rw [HML.out]; omega)]
        have HRA : Hid (joinA al hs [v0, v1, v2] e ms = R) := by unfold Hid; rw [← HR.out]; unfold nextR; rw [hDn]
        have HRT : Hid (F = true → R = none) := fun hF => by
          rw [← HRA.out]
          unfold joinA
          rw [if_neg (fun hh => by rw [(whole_iff hk).1 hh, hF] at hFf; cases hFf)]
        obtain ⟨J, HJJ⟩ : ∃ z, Hid (joinsR al hs e ms 0 (lacksD ms v0 v1 v2 0) = z) := ⟨_, rfl⟩
        have HRJ : Hid (F = false → J = R) := fun hF => by
          rw [← HRA.out, ← HJJ.out]
          unfold joinA
          rw [if_pos ((whole_iff hk).2 (by rw [← hFf, hF]))]
          rfl
        obtain ⟨l0, HO0⟩ : ∃ x, Hid (lackV ms v0 0 = x) := ⟨_, rfl⟩
        obtain ⟨l1, HO1⟩ : ∃ x, Hid (lackV ms v1 1 = x) := ⟨_, rfl⟩
        obtain ⟨l2, HO2⟩ : ∃ x, Hid (lackV ms v2 2 = x) := ⟨_, rfl⟩
        clear hrw x0 x1 HR HRA hDn hFf HF HD hA hget hgm
        go_wp2_with fail
        go_loopw [66] (fun i wr => ∃ k : Nat, k ≤ 3 ∧ i = .int .i64 k ∧ Hid (F = false → joinsR al hs e ms k (lacksD ms v0 v1 v2 k) = J) ∧ At 28 wr b #[.int .i64 e, .slice p n c] ∧ At 23 wr (b + 1) #[.int .i64 h0, .int .i64 h1, .int .i64 h2, .int .i64 h3, .int .i64 h4, .int .i64 h5] ∧ At 25 wr (b + 2) #[.int .i64 v0, .int .i64 v1, .int .i64 v2] ∧ At 37 wr (b + 3) #[.int .i64 0, .int .i64 0, .int .i64 0, .int .i64 0] ∧ Below b w wr) (fun i _ => 3 - (intOf i).toNat)
        case atStart => exact ⟨0, by omega, rfl, (fun _ => HJJ.out), hX, hH, hV, hC, hb⟩
        case round =>
          clear hX hH hV hC hb HJJ
          obtain ⟨k, hk3', rfl, HJ0, hX, hH, hV, hC, hb⟩ := hrel
          have hrw := hr.below (by rw [hw]; exact hb)
          obtain ⟨x0, x1⟩ := hX.two
          obtain ⟨m0, m1, m2, m3, m4, m5⟩ := hH.six
          by_cases hk3 : k < 3
          · obtain rfl | rfl | rfl : k = 0 ∨ k = 1 ∨ k = 2 := by omega
            · have HJ : Hid (F = false → (if l0 = 0 then joinsR al hs e ms (0 + 1) (lacksD ms v0 v1 v2 1) else match joinR e ms ⟨spareV al hs ms (0 : Nat), (0 : Nat), false⟩ with
                  | .ok (e', ms') => some (⟨2, spareV al hs ms (0 : Nat), (0 : Nat), e⟩, e', ms')
                  | .error _ => joinsR al hs e ms (0 + 1) (lacksD ms v0 v1 v2 1)) = J) := fun hF => by
                have := HJ0.out hF
                rw [lacksD_0, joinsR, HO0.out] at this
                exact this
              have hSp := rSpare_any e p n c ms al h0 h1 h2 h3 h4 h5 0 wr hal hrw hn
              have HSV : Hid (rspV al [h0, h1, h2, h3, h4, h5] e ms 0 = spareV al hs ms ((0 : Nat) : Int)) := by unfold Hid; rw [HS.out]; exact rsp_eq hk 0
              rw [HSV.out] at hSp
              have hM := fun W hx => many_any e p n c ms 0 W hx hn
              have hMn := manyN_le ms 0
              have HL0 : Hid (l0 = if ((manyN ms 0 : Nat) : Int) < v0 then v0 - ((manyN ms 0 : Nat) : Int) else 0) := by unfold Hid; rw [← HO0.out]; rfl
              have hJo := fun W hx => rJoin_any e p n c ms ⟨spareV al hs ms ((0 : Nat) : Int), ((0 : Nat) : Int), false⟩ W hx hn
              dsimp only at hJo
              have hsb := spare_err (al := al) (hs := hs) (e := e) (ms := ms) (s := ((0 : Nat) : Int)) hk
              generalize hsp : spareV al hs ms ((0 : Nat) : Int) = sp at *
              generalize manyN ms 0 = x at *
              clear HSV hsp HJ0 hk
              go_wp2_with fail
              refine hSp.mono ?_
              rintro r w5 ⟨rfl, hb5⟩
              have hB5 := hb.trans (hb5.mono (by have := hb.size; omega))
              have hX5 := hX.below hb5
              have hH5 := hH.below hb5
              have hV5 := hV.below hb5
              have hC5 := hC.below hb5
              have hr5 := hrw.below hb5
              obtain ⟨x0, x1⟩ := hX5.two
              obtain ⟨n0, n1, n2⟩ := hV5.three
              clear hSp hX hH hV hC hb hb5 hrw
              cases F with
              | true =>
                go_wp2_with fail
                refine wp_region_quiet_below (by kernel_rfl) (by kernel_rfl) ?_
                repeat (with_reducible refine wpQuiet_step (fun K hK => ?_); go_simp; first | (with_reducible refine hK _ ?_; clear hK K) | (rw [if_neg (by decide)]; with_reducible refine hK _ ?_; clear hK K))
                refine wpQuiet_nil ?_
                intro _ hw'
                obtain ⟨⟨dq, osq⟩, hw''⟩ := hw'
                subst hw''
                have hbq := below_regrown w5 dq osq
                go_wp2_with fail
                go_roundw
                case rel => exact ⟨1, by omega, rfl, (fun h => by cases h), hX5.below hbq, hH5.below hbq, hV5.below hbq, hC5.below hbq, hB5.trans (hbq.mono (by have := hB5.size; omega))⟩
                case measure => simp [intOf]
              | false =>
                have HJ1 := HJ.out rfl
                have HJR : Hid (J = R) := HRJ.out rfl
                by_cases hs0 : sp < 0
                · have HN : Hid (joinsR al hs e ms (0 + 1) (lacksD ms v0 v1 v2 1) = J) := by
                    unfold Hid
                    obtain ⟨er, her⟩ := hsb hs0
                    rw [← HJ1, her]
                    split <;> rfl
                  clear HJ HJ1 hsb hJo
                  go_wp2_with fail
                  refine wp_region_quiet_below (by kernel_rfl) (by kernel_rfl) ?_
                  repeat (with_reducible refine wpQuiet_step (fun K hK => ?_); go_simp; first | (with_reducible refine hK _ ?_; clear hK K) | (rw [if_neg (by decide)]; with_reducible refine hK _ ?_; clear hK K))
                  refine wpQuiet_nil ?_
                  intro _ hw'
                  obtain ⟨⟨dq, osq⟩, hw''⟩ := hw'
                  subst hw''
                  have hbq := below_regrown w5 dq osq
                  go_wp2_with fail
                  go_roundw
                  case rel => exact ⟨1, by omega, rfl, (fun _ => HN.out), hX5.below hbq, hH5.below hbq, hV5.below hbq, hC5.below hbq, hB5.trans (hbq.mono (by have := hB5.size; omega))⟩
                  case measure => simp [intOf]
                · have hsd : decide (sp < 0) = false := decide_eq_false hs0
                  have c1 := fun d os => Calls.regrown_of (hM (Sort.grow (redrawn w5 d) os) (hr5.below (below_regrown w5 d os)))
                  have k0 := cell_regrown x0
                  have k1 := cell_regrown x1
                  have j0 := cell_regrown n0
                  have j1 := cell_regrown n1
                  have j2 := cell_regrown n2
                  by_cases hmv : v0 ≤ (x : Int)
                  · have HN : Hid (joinsR al hs e ms (0 + 1) (lacksD ms v0 v1 v2 1) = J) := by
                      unfold Hid
                      rw [← HJ1, if_pos (by rw [HL0.out, if_neg (by omega)])]
                    have hmd : decide (v0 ≤ (x : Int)) = true := decide_eq_true hmv
                    clear HJ HJ1 hsb hJo hM hs0 x0 x1 n0 n1 n2 hmv
                    go_wp2_with fail
                    refine wp_region_quiet_below (by kernel_rfl) (by kernel_rfl) ?_
                    repeat (quiet_step (first | (go_at_call 11; exact c1 _ _)))
                    refine wpQuiet_nil ?_
                    intro _ hw'
                    obtain ⟨⟨dq, osq⟩, hw''⟩ := hw'
                    subst hw''
                    have hbq := below_regrown w5 dq osq
                    go_wp2_with fail
                    go_roundw
                    case rel => exact ⟨1, by omega, rfl, (fun _ => HN.out), hX5.below hbq, hH5.below hbq, hV5.below hbq, hC5.below hbq, hB5.trans (hbq.mono (by have := hB5.size; omega))⟩
                    case measure => simp [intOf]
                  · rw [if_neg (by rw [HL0.out, if_pos (by omega)]; omega)] at HJ1
                    have hmd : decide (v0 ≤ (x : Int)) = false := decide_eq_false hmv
                    have HJ2 : Hid ((match joinR e ms ⟨sp, ((0 : Nat) : Int), false⟩ with
                      | .ok (e', ms') => some (⟨2, sp, ((0 : Nat) : Int), e⟩, e', ms')
                      | .error _ => joinsR al hs e ms (0 + 1) (lacksD ms v0 v1 v2 1)) = J) := HJ1
                    clear HJ HJ1 hsb hM hs0 x0 x1 n0 n1 n2 hmv
                    go_wp2_with fail
                    refine wp_region_quiet_below (by kernel_rfl) (by kernel_rfl) ?_
                    repeat (quiet_step (first | (go_at_call 11; exact c1 _ _)))
                    refine wpQuiet_nil ?_
                    intro _ hw'
                    obtain ⟨⟨dq, osq⟩, hw''⟩ := hw'
                    subst hw''
                    have hbq := below_regrown w5 dq osq
                    clear c1 k0 k1 j0 j1 j2
                    generalize Sort.grow (redrawn w5 dq) osq = w6 at *
                    have hX6 := hX5.below hbq
                    have hH6 := hH5.below hbq
                    have hV6 := hV5.below hbq
                    have hC6 := hC5.below hbq
                    have hr6 := hr5.below hbq
                    have hB6 := hB5.trans (hbq.mono (by have := hB5.size; omega))
                    obtain ⟨x0, x1⟩ := hX6.two
                    clear hX5 hH5 hV5 hC5 hr5 hB5 hbq
                    cases hcu : joinR e ms ⟨sp, ((0 : Nat) : Int), false⟩ with
                    | error kk =>
                      have HN : Hid (joinsR al hs e ms (0 + 1) (lacksD ms v0 v1 v2 1) = J) := by
                        unfold Hid
                        rw [← HJ2.out, hcu]
                      have hk0 := vjoin_err hcu
                      rw [hcu] at hJo
                      clear HJ2 hcu
                      go_wp2_with fail
                      refine (hJo _ hr6).mono ?_
                      rintro r w7 ⟨x7, rfl, ht7, hb7⟩
                      obtain rfl := ht7
                      have hba := below_alloc w7 (.cells #[.int .i64 0, .slice none 0 0] 28)
                      have hB7 := hB6.trans (hb7.mono (by have := hB6.size; omega))
                      clear hJo
                      go_wp2_with fail
                      go_roundw
                      case rel => exact ⟨1, by omega, rfl, (fun _ => HN.out), (hX6.below hb7).below hba, (hH6.below hb7).below hba, (hV6.below hb7).below hba, (hC6.below hb7).below hba, hB7.trans (hba.mono (by have := hB7.size; omega))⟩
                      case measure => simp [intOf]
                    | ok em =>
                      obtain ⟨e2, ms2⟩ := em
                      have HN : Hid (J = some (⟨2, sp, ((0 : Nat) : Int), e⟩, e2, ms2)) := by
                        unfold Hid
                        rw [← HJ2.out, hcu]
                      have HR1 : Hid (R = some (⟨2, sp, 0, e⟩, e2, ms2)) := by unfold Hid; rw [← HJR.out, HN.out]; rfl
                      have HVV : Hid (okV R = .tuple #[.agg #[.int .i64 2, .int .i64 sp, .int .i64 0, .int .i64 e], .bool true, .int .i64 0]) := by unfold Hid; rw [HR1.out]; rfl
                      rw [hcu] at hJo
                      clear HJ2 hcu HN HR1
                      go_wp2_with fail
                      refine (hJo _ hr6).mono ?_
                      rintro r w7 ⟨x7, rfl, ht7, hb7⟩
                      obtain ⟨q7, c7, rfl, _, _⟩ := ht7
                      have hba := below_alloc w7 (.cells #[.int .i64 e2, .slice q7 ms2.length c7] 28)
                      have hB7 := hB6.trans (hb7.mono (by have := hB6.size; omega))
                      have hB8 := hB7.trans (hba.mono (by have := hB7.size; omega))
                      have hC8 := (hC6.below hb7).below hba
                      obtain ⟨x0, x1⟩ := ((hX6.below hb7).below hba).two
                      obtain ⟨c0, c1, c2, c3⟩ := hC8.four
                      obtain ⟨f0, f1, f2, f3⟩ := hC8.free4
                      clear hJo hX6 hH6 hV6 hC6 hr6 hB6 hb7 hba hB7
                      go_wp2_with fail
                      exact bodyPost_ret (results_cm (p := 8) (u := 9) (t := 10) rfl _ _ (b + 3) _ _ _ _ rfl (hC8.put4 _ _ _ _)) rfl ⟨by rw [HVV.out]; rfl, Below.put4 hB8 (by omega) _ _ _ _⟩
            · have HJ : Hid (F = false → (if l1 = 0 then joinsR al hs e ms (1 + 1) (lacksD ms v0 v1 v2 2) else match joinR e ms ⟨spareV al hs ms (1 : Nat), (1 : Nat), false⟩ with
                  | .ok (e', ms') => some (⟨2, spareV al hs ms (1 : Nat), (1 : Nat), e⟩, e', ms')
                  | .error _ => joinsR al hs e ms (1 + 1) (lacksD ms v0 v1 v2 2)) = J) := fun hF => by
                have := HJ0.out hF
                rw [lacksD_1, joinsR, HO1.out] at this
                exact this
              have hSp := rSpare_any e p n c ms al h0 h1 h2 h3 h4 h5 1 wr hal hrw hn
              have HSV : Hid (rspV al [h0, h1, h2, h3, h4, h5] e ms 1 = spareV al hs ms ((1 : Nat) : Int)) := by unfold Hid; rw [HS.out]; exact rsp_eq hk 1
              rw [HSV.out] at hSp
              have hM := fun W hx => many_any e p n c ms 1 W hx hn
              have hMn := manyN_le ms 1
              have HL1 : Hid (l1 = if ((manyN ms 1 : Nat) : Int) < v1 then v1 - ((manyN ms 1 : Nat) : Int) else 0) := by unfold Hid; rw [← HO1.out]; rfl
              have hJo := fun W hx => rJoin_any e p n c ms ⟨spareV al hs ms ((1 : Nat) : Int), ((1 : Nat) : Int), false⟩ W hx hn
              dsimp only at hJo
              have hsb := spare_err (al := al) (hs := hs) (e := e) (ms := ms) (s := ((1 : Nat) : Int)) hk
              generalize hsp : spareV al hs ms ((1 : Nat) : Int) = sp at *
              generalize manyN ms 1 = x at *
              clear HSV hsp HJ0 hk
              go_wp2_with fail
              refine hSp.mono ?_
              rintro r w5 ⟨rfl, hb5⟩
              have hB5 := hb.trans (hb5.mono (by have := hb.size; omega))
              have hX5 := hX.below hb5
              have hH5 := hH.below hb5
              have hV5 := hV.below hb5
              have hC5 := hC.below hb5
              have hr5 := hrw.below hb5
              obtain ⟨x0, x1⟩ := hX5.two
              obtain ⟨n0, n1, n2⟩ := hV5.three
              clear hSp hX hH hV hC hb hb5 hrw
              cases F with
              | true =>
                go_wp2_with fail
                refine wp_region_quiet_below (by kernel_rfl) (by kernel_rfl) ?_
                repeat (with_reducible refine wpQuiet_step (fun K hK => ?_); go_simp; first | (with_reducible refine hK _ ?_; clear hK K) | (rw [if_neg (by decide)]; with_reducible refine hK _ ?_; clear hK K))
                refine wpQuiet_nil ?_
                intro _ hw'
                obtain ⟨⟨dq, osq⟩, hw''⟩ := hw'
                subst hw''
                have hbq := below_regrown w5 dq osq
                go_wp2_with fail
                go_roundw
                case rel => exact ⟨2, by omega, rfl, (fun h => by cases h), hX5.below hbq, hH5.below hbq, hV5.below hbq, hC5.below hbq, hB5.trans (hbq.mono (by have := hB5.size; omega))⟩
                case measure => simp [intOf]
              | false =>
                have HJ1 := HJ.out rfl
                have HJR : Hid (J = R) := HRJ.out rfl
                by_cases hs0 : sp < 0
                · have HN : Hid (joinsR al hs e ms (1 + 1) (lacksD ms v0 v1 v2 2) = J) := by
                    unfold Hid
                    obtain ⟨er, her⟩ := hsb hs0
                    rw [← HJ1, her]
                    split <;> rfl
                  clear HJ HJ1 hsb hJo
                  go_wp2_with fail
                  refine wp_region_quiet_below (by kernel_rfl) (by kernel_rfl) ?_
                  repeat (with_reducible refine wpQuiet_step (fun K hK => ?_); go_simp; first | (with_reducible refine hK _ ?_; clear hK K) | (rw [if_neg (by decide)]; with_reducible refine hK _ ?_; clear hK K))
                  refine wpQuiet_nil ?_
                  intro _ hw'
                  obtain ⟨⟨dq, osq⟩, hw''⟩ := hw'
                  subst hw''
                  have hbq := below_regrown w5 dq osq
                  go_wp2_with fail
                  go_roundw
                  case rel => exact ⟨2, by omega, rfl, (fun _ => HN.out), hX5.below hbq, hH5.below hbq, hV5.below hbq, hC5.below hbq, hB5.trans (hbq.mono (by have := hB5.size; omega))⟩
                  case measure => simp [intOf]
                · have hsd : decide (sp < 0) = false := decide_eq_false hs0
                  have c1 := fun d os => Calls.regrown_of (hM (Sort.grow (redrawn w5 d) os) (hr5.below (below_regrown w5 d os)))
                  have k0 := cell_regrown x0
                  have k1 := cell_regrown x1
                  have j0 := cell_regrown n0
                  have j1 := cell_regrown n1
                  have j2 := cell_regrown n2
                  by_cases hmv : v1 ≤ (x : Int)
                  · have HN : Hid (joinsR al hs e ms (1 + 1) (lacksD ms v0 v1 v2 2) = J) := by
                      unfold Hid
                      rw [← HJ1, if_pos (by rw [HL1.out, if_neg (by omega)])]
                    have hmd : decide (v1 ≤ (x : Int)) = true := decide_eq_true hmv
                    clear HJ HJ1 hsb hJo hM hs0 x0 x1 n0 n1 n2 hmv
                    go_wp2_with fail
                    refine wp_region_quiet_below (by kernel_rfl) (by kernel_rfl) ?_
                    repeat (quiet_step (first | (go_at_call 11; exact c1 _ _)))
                    refine wpQuiet_nil ?_
                    intro _ hw'
                    obtain ⟨⟨dq, osq⟩, hw''⟩ := hw'
                    subst hw''
                    have hbq := below_regrown w5 dq osq
                    go_wp2_with fail
                    go_roundw
                    case rel => exact ⟨2, by omega, rfl, (fun _ => HN.out), hX5.below hbq, hH5.below hbq, hV5.below hbq, hC5.below hbq, hB5.trans (hbq.mono (by have := hB5.size; omega))⟩
                    case measure => simp [intOf]
                  · rw [if_neg (by rw [HL1.out, if_pos (by omega)]; omega)] at HJ1
                    have hmd : decide (v1 ≤ (x : Int)) = false := decide_eq_false hmv
                    have HJ2 : Hid ((match joinR e ms ⟨sp, ((1 : Nat) : Int), false⟩ with
                      | .ok (e', ms') => some (⟨2, sp, ((1 : Nat) : Int), e⟩, e', ms')
                      | .error _ => joinsR al hs e ms (1 + 1) (lacksD ms v0 v1 v2 2)) = J) := HJ1
                    clear HJ HJ1 hsb hM hs0 x0 x1 n0 n1 n2 hmv
                    go_wp2_with fail
                    refine wp_region_quiet_below (by kernel_rfl) (by kernel_rfl) ?_
                    repeat (quiet_step (first | (go_at_call 11; exact c1 _ _)))
                    refine wpQuiet_nil ?_
                    intro _ hw'
                    obtain ⟨⟨dq, osq⟩, hw''⟩ := hw'
                    subst hw''
                    have hbq := below_regrown w5 dq osq
                    clear c1 k0 k1 j0 j1 j2
                    generalize Sort.grow (redrawn w5 dq) osq = w6 at *
                    have hX6 := hX5.below hbq
                    have hH6 := hH5.below hbq
                    have hV6 := hV5.below hbq
                    have hC6 := hC5.below hbq
                    have hr6 := hr5.below hbq
                    have hB6 := hB5.trans (hbq.mono (by have := hB5.size; omega))
                    obtain ⟨x0, x1⟩ := hX6.two
                    clear hX5 hH5 hV5 hC5 hr5 hB5 hbq
                    cases hcu : joinR e ms ⟨sp, ((1 : Nat) : Int), false⟩ with
                    | error kk =>
                      have HN : Hid (joinsR al hs e ms (1 + 1) (lacksD ms v0 v1 v2 2) = J) := by
                        unfold Hid
                        rw [← HJ2.out, hcu]
                      have hk0 := vjoin_err hcu
                      rw [hcu] at hJo
                      clear HJ2 hcu
                      go_wp2_with fail
                      refine (hJo _ hr6).mono ?_
                      rintro r w7 ⟨x7, rfl, ht7, hb7⟩
                      obtain rfl := ht7
                      have hba := below_alloc w7 (.cells #[.int .i64 0, .slice none 0 0] 28)
                      have hB7 := hB6.trans (hb7.mono (by have := hB6.size; omega))
                      clear hJo
                      go_wp2_with fail
                      go_roundw
                      case rel => exact ⟨2, by omega, rfl, (fun _ => HN.out), (hX6.below hb7).below hba, (hH6.below hb7).below hba, (hV6.below hb7).below hba, (hC6.below hb7).below hba, hB7.trans (hba.mono (by have := hB7.size; omega))⟩
                      case measure => simp [intOf]
                    | ok em =>
                      obtain ⟨e2, ms2⟩ := em
                      have HN : Hid (J = some (⟨2, sp, ((1 : Nat) : Int), e⟩, e2, ms2)) := by
                        unfold Hid
                        rw [← HJ2.out, hcu]
                      have HR1 : Hid (R = some (⟨2, sp, 1, e⟩, e2, ms2)) := by unfold Hid; rw [← HJR.out, HN.out]; rfl
                      have HVV : Hid (okV R = .tuple #[.agg #[.int .i64 2, .int .i64 sp, .int .i64 1, .int .i64 e], .bool true, .int .i64 0]) := by unfold Hid; rw [HR1.out]; rfl
                      rw [hcu] at hJo
                      clear HJ2 hcu HN HR1
                      go_wp2_with fail
                      refine (hJo _ hr6).mono ?_
                      rintro r w7 ⟨x7, rfl, ht7, hb7⟩
                      obtain ⟨q7, c7, rfl, _, _⟩ := ht7
                      have hba := below_alloc w7 (.cells #[.int .i64 e2, .slice q7 ms2.length c7] 28)
                      have hB7 := hB6.trans (hb7.mono (by have := hB6.size; omega))
                      have hB8 := hB7.trans (hba.mono (by have := hB7.size; omega))
                      have hC8 := (hC6.below hb7).below hba
                      obtain ⟨x0, x1⟩ := ((hX6.below hb7).below hba).two
                      obtain ⟨c0, c1, c2, c3⟩ := hC8.four
                      obtain ⟨f0, f1, f2, f3⟩ := hC8.free4
                      clear hJo hX6 hH6 hV6 hC6 hr6 hB6 hb7 hba hB7
                      go_wp2_with fail
                      exact bodyPost_ret (results_cm (p := 8) (u := 9) (t := 10) rfl _ _ (b + 3) _ _ _ _ rfl (hC8.put4 _ _ _ _)) rfl ⟨by rw [HVV.out]; rfl, Below.put4 hB8 (by omega) _ _ _ _⟩
            · have HJ : Hid (F = false → (if l2 = 0 then joinsR al hs e ms (2 + 1) (lacksD ms v0 v1 v2 3) else match joinR e ms ⟨spareV al hs ms (2 : Nat), (2 : Nat), false⟩ with
                  | .ok (e', ms') => some (⟨2, spareV al hs ms (2 : Nat), (2 : Nat), e⟩, e', ms')
                  | .error _ => joinsR al hs e ms (2 + 1) (lacksD ms v0 v1 v2 3)) = J) := fun hF => by
                have := HJ0.out hF
                rw [lacksD_2, joinsR, HO2.out] at this
                exact this
              have hSp := rSpare_any e p n c ms al h0 h1 h2 h3 h4 h5 2 wr hal hrw hn
              have HSV : Hid (rspV al [h0, h1, h2, h3, h4, h5] e ms 2 = spareV al hs ms ((2 : Nat) : Int)) := by unfold Hid; rw [HS.out]; exact rsp_eq hk 2
              rw [HSV.out] at hSp
              have hM := fun W hx => many_any e p n c ms 2 W hx hn
              have hMn := manyN_le ms 2
              have HL2 : Hid (l2 = if ((manyN ms 2 : Nat) : Int) < v2 then v2 - ((manyN ms 2 : Nat) : Int) else 0) := by unfold Hid; rw [← HO2.out]; rfl
              have hJo := fun W hx => rJoin_any e p n c ms ⟨spareV al hs ms ((2 : Nat) : Int), ((2 : Nat) : Int), false⟩ W hx hn
              dsimp only at hJo
              have hsb := spare_err (al := al) (hs := hs) (e := e) (ms := ms) (s := ((2 : Nat) : Int)) hk
              generalize hsp : spareV al hs ms ((2 : Nat) : Int) = sp at *
              generalize manyN ms 2 = x at *
              clear HSV hsp HJ0 hk
              go_wp2_with fail
              refine hSp.mono ?_
              rintro r w5 ⟨rfl, hb5⟩
              have hB5 := hb.trans (hb5.mono (by have := hb.size; omega))
              have hX5 := hX.below hb5
              have hH5 := hH.below hb5
              have hV5 := hV.below hb5
              have hC5 := hC.below hb5
              have hr5 := hrw.below hb5
              obtain ⟨x0, x1⟩ := hX5.two
              obtain ⟨n0, n1, n2⟩ := hV5.three
              clear hSp hX hH hV hC hb hb5 hrw
              cases F with
              | true =>
                go_wp2_with fail
                refine wp_region_quiet_below (by kernel_rfl) (by kernel_rfl) ?_
                repeat (with_reducible refine wpQuiet_step (fun K hK => ?_); go_simp; first | (with_reducible refine hK _ ?_; clear hK K) | (rw [if_neg (by decide)]; with_reducible refine hK _ ?_; clear hK K))
                refine wpQuiet_nil ?_
                intro _ hw'
                obtain ⟨⟨dq, osq⟩, hw''⟩ := hw'
                subst hw''
                have hbq := below_regrown w5 dq osq
                go_wp2_with fail
                go_roundw
                case rel => exact ⟨3, by omega, rfl, (fun h => by cases h), hX5.below hbq, hH5.below hbq, hV5.below hbq, hC5.below hbq, hB5.trans (hbq.mono (by have := hB5.size; omega))⟩
                case measure => simp [intOf]
              | false =>
                have HJ1 := HJ.out rfl
                have HJR : Hid (J = R) := HRJ.out rfl
                by_cases hs0 : sp < 0
                · have HN : Hid (joinsR al hs e ms (2 + 1) (lacksD ms v0 v1 v2 3) = J) := by
                    unfold Hid
                    obtain ⟨er, her⟩ := hsb hs0
                    rw [← HJ1, her]
                    split <;> rfl
                  clear HJ HJ1 hsb hJo
                  go_wp2_with fail
                  refine wp_region_quiet_below (by kernel_rfl) (by kernel_rfl) ?_
                  repeat (with_reducible refine wpQuiet_step (fun K hK => ?_); go_simp; first | (with_reducible refine hK _ ?_; clear hK K) | (rw [if_neg (by decide)]; with_reducible refine hK _ ?_; clear hK K))
                  refine wpQuiet_nil ?_
                  intro _ hw'
                  obtain ⟨⟨dq, osq⟩, hw''⟩ := hw'
                  subst hw''
                  have hbq := below_regrown w5 dq osq
                  go_wp2_with fail
                  go_roundw
                  case rel => exact ⟨3, by omega, rfl, (fun _ => HN.out), hX5.below hbq, hH5.below hbq, hV5.below hbq, hC5.below hbq, hB5.trans (hbq.mono (by have := hB5.size; omega))⟩
                  case measure => simp [intOf]
                · have hsd : decide (sp < 0) = false := decide_eq_false hs0
                  have c1 := fun d os => Calls.regrown_of (hM (Sort.grow (redrawn w5 d) os) (hr5.below (below_regrown w5 d os)))
                  have k0 := cell_regrown x0
                  have k1 := cell_regrown x1
                  have j0 := cell_regrown n0
                  have j1 := cell_regrown n1
                  have j2 := cell_regrown n2
                  by_cases hmv : v2 ≤ (x : Int)
                  · have HN : Hid (joinsR al hs e ms (2 + 1) (lacksD ms v0 v1 v2 3) = J) := by
                      unfold Hid
                      rw [← HJ1, if_pos (by rw [HL2.out, if_neg (by omega)])]
                    have hmd : decide (v2 ≤ (x : Int)) = true := decide_eq_true hmv
                    clear HJ HJ1 hsb hJo hM hs0 x0 x1 n0 n1 n2 hmv
                    go_wp2_with fail
                    refine wp_region_quiet_below (by kernel_rfl) (by kernel_rfl) ?_
                    repeat (quiet_step (first | (go_at_call 11; exact c1 _ _)))
                    refine wpQuiet_nil ?_
                    intro _ hw'
                    obtain ⟨⟨dq, osq⟩, hw''⟩ := hw'
                    subst hw''
                    have hbq := below_regrown w5 dq osq
                    go_wp2_with fail
                    go_roundw
                    case rel => exact ⟨3, by omega, rfl, (fun _ => HN.out), hX5.below hbq, hH5.below hbq, hV5.below hbq, hC5.below hbq, hB5.trans (hbq.mono (by have := hB5.size; omega))⟩
                    case measure => simp [intOf]
                  · rw [if_neg (by rw [HL2.out, if_pos (by omega)]; omega)] at HJ1
                    have hmd : decide (v2 ≤ (x : Int)) = false := decide_eq_false hmv
                    have HJ2 : Hid ((match joinR e ms ⟨sp, ((2 : Nat) : Int), false⟩ with
                      | .ok (e', ms') => some (⟨2, sp, ((2 : Nat) : Int), e⟩, e', ms')
                      | .error _ => joinsR al hs e ms (2 + 1) (lacksD ms v0 v1 v2 3)) = J) := HJ1
                    clear HJ HJ1 hsb hM hs0 x0 x1 n0 n1 n2 hmv
                    go_wp2_with fail
                    refine wp_region_quiet_below (by kernel_rfl) (by kernel_rfl) ?_
                    repeat (quiet_step (first | (go_at_call 11; exact c1 _ _)))
                    refine wpQuiet_nil ?_
                    intro _ hw'
                    obtain ⟨⟨dq, osq⟩, hw''⟩ := hw'
                    subst hw''
                    have hbq := below_regrown w5 dq osq
                    clear c1 k0 k1 j0 j1 j2
                    generalize Sort.grow (redrawn w5 dq) osq = w6 at *
                    have hX6 := hX5.below hbq
                    have hH6 := hH5.below hbq
                    have hV6 := hV5.below hbq
                    have hC6 := hC5.below hbq
                    have hr6 := hr5.below hbq
                    have hB6 := hB5.trans (hbq.mono (by have := hB5.size; omega))
                    obtain ⟨x0, x1⟩ := hX6.two
                    clear hX5 hH5 hV5 hC5 hr5 hB5 hbq
                    cases hcu : joinR e ms ⟨sp, ((2 : Nat) : Int), false⟩ with
                    | error kk =>
                      have HN : Hid (joinsR al hs e ms (2 + 1) (lacksD ms v0 v1 v2 3) = J) := by
                        unfold Hid
                        rw [← HJ2.out, hcu]
                      have hk0 := vjoin_err hcu
                      rw [hcu] at hJo
                      clear HJ2 hcu
                      go_wp2_with fail
                      refine (hJo _ hr6).mono ?_
                      rintro r w7 ⟨x7, rfl, ht7, hb7⟩
                      obtain rfl := ht7
                      have hba := below_alloc w7 (.cells #[.int .i64 0, .slice none 0 0] 28)
                      have hB7 := hB6.trans (hb7.mono (by have := hB6.size; omega))
                      clear hJo
                      go_wp2_with fail
                      go_roundw
                      case rel => exact ⟨3, by omega, rfl, (fun _ => HN.out), (hX6.below hb7).below hba, (hH6.below hb7).below hba, (hV6.below hb7).below hba, (hC6.below hb7).below hba, hB7.trans (hba.mono (by have := hB7.size; omega))⟩
                      case measure => simp [intOf]
                    | ok em =>
                      obtain ⟨e2, ms2⟩ := em
                      have HN : Hid (J = some (⟨2, sp, ((2 : Nat) : Int), e⟩, e2, ms2)) := by
                        unfold Hid
                        rw [← HJ2.out, hcu]
                      have HR1 : Hid (R = some (⟨2, sp, 2, e⟩, e2, ms2)) := by unfold Hid; rw [← HJR.out, HN.out]; rfl
                      have HVV : Hid (okV R = .tuple #[.agg #[.int .i64 2, .int .i64 sp, .int .i64 2, .int .i64 e], .bool true, .int .i64 0]) := by unfold Hid; rw [HR1.out]; rfl
                      rw [hcu] at hJo
                      clear HJ2 hcu HN HR1
                      go_wp2_with fail
                      refine (hJo _ hr6).mono ?_
                      rintro r w7 ⟨x7, rfl, ht7, hb7⟩
                      obtain ⟨q7, c7, rfl, _, _⟩ := ht7
                      have hba := below_alloc w7 (.cells #[.int .i64 e2, .slice q7 ms2.length c7] 28)
                      have hB7 := hB6.trans (hb7.mono (by have := hB6.size; omega))
                      have hB8 := hB7.trans (hba.mono (by have := hB7.size; omega))
                      have hC8 := (hC6.below hb7).below hba
                      obtain ⟨x0, x1⟩ := ((hX6.below hb7).below hba).two
                      obtain ⟨c0, c1, c2, c3⟩ := hC8.four
                      obtain ⟨f0, f1, f2, f3⟩ := hC8.free4
                      clear hJo hX6 hH6 hV6 hC6 hr6 hB6 hb7 hba hB7
                      go_wp2_with fail
                      exact bodyPost_ret (results_cm (p := 8) (u := 9) (t := 10) rfl _ _ (b + 3) _ _ _ _ rfl (hC8.put4 _ _ _ _)) rfl ⟨by rw [HVV.out]; rfl, Below.put4 hB8 (by omega) _ _ _ _⟩
          · have HVV : Hid (okV R = .tuple #[.agg #[.int .i64 0, .int .i64 0, .int .i64 0, .int .i64 0], .bool false, .int .i64 0]) := by
              unfold Hid
              cases hF : F with
              | true => rw [HRT.out hF]; rfl
              | false =>
                have h3 : k = 3 := by omega
                have := HJ0.out hF
                rw [h3, lacksD_3] at this
                rw [← HRJ.out hF, ← this]
                rfl
            obtain ⟨c0, c1, c2, c3⟩ := hC.four
            obtain ⟨f0, f1, f2, f3⟩ := hC.free4
            clear HJ0 hrw hX hH hV
            go_wp2_with fail
            exact bodyPost_ret (results_cm (p := 8) (u := 9) (t := 10) rfl _ _ (b + 3) _ _ _ _ rfl (hC.put4 _ _ _ _)) rfl ⟨by rw [HVV.out]; rfl, Below.put4 hb (by omega) _ _ _ _⟩

end Go.Proofs.YtigojnpjpagfjaaDoor.M

namespace Go.Proofs.YtigojnpjpagfjaaDoor.M
open Go.ChangeShapes Go.WideShapes Go.ChangeAt Go.RowKit

theorem RdM.low {W W' : World} {B : Nat} {q : Option Addr} {n c : Nat} {ms : List Mb} (h : RdM W q n c ms) (hb : Below B W W') (hq : ∀ a, q = some a → 0 < n → a.block < B) : RdM W' q n c ms := by
  refine ⟨h.len, h.cap, h.nil, fun hn => ?_⟩
  obtain ⟨g, o, rfl, hc⟩ := h.cells hn
  have hlt := hq _ rfl hn
  refine ⟨g, o, rfl, fun i hi => ?_⟩
  obtain ⟨h1, h2, h3⟩ := hc i hi
  exact ⟨(hb.cell (p := ⟨g, o + i * 3, none⟩) hlt).trans h1, (hb.cell (p := ⟨g, o + i * 3 + 1, none⟩) hlt).trans h2, (hb.cell (p := ⟨g, o + i * 3 + 2, none⟩) hlt).trans h3⟩

theorem RdM.blk {W : World} {q : Option Addr} {n c : Nat} {ms : List Mb} (h : RdM W q n c ms) : ∀ a, q = some a → 0 < n → a.block < W.heap.size := fun a ha h0 => by
  obtain ⟨g, o, e1, hc⟩ := h.cells h0
  rw [ha] at e1
  cases e1
  exact World.block_lt_of_cell? _ _ (hc 0 h0).1

theorem At.low {t : TypeId} {W W' : World} {B g : Nat} {cs : Array Value} (h : At t W g cs) (hb : Below B W W') (hg : g < B) : At t W' g cs := by
  unfold At
  rw [hb.block g hg]
  exact h

theorem Arr.low {W W' : World} {B g : Nat} {bs : List Bool} (h : Arr W g bs) (hb : Below B W W') (hg : g < B) : Arr W' g bs := by
  unfold Arr
  rw [hb.block g hg]
  exact h

theorem Arr.other {W : World} {g : Nat} {bs : List Bool} (h : Arr W g bs) (b i : Nat) (v : Value) (hne : b ≠ g) : Arr (W.setCell ⟨b, i, none⟩ v) g bs := by
  unfold Arr
  rw [Below.heap_setCell _ _ _ _ (by simpa using fun e => hne e.symm)]
  exact h

theorem Arr.grown {w w' : World} {y : Nat} {bs : List Bool} {o : Option Nat} (h : Arr w y bs) (hg : w.grownBy w' o) (hne : some y ≠ o) : Arr w' y bs := by
  unfold Arr
  rw [hg.block y h.lt hne]
  exact h

theorem OwC.low {W W' : World} {B B2 : Nat} {v : Value} {L : List Cm} (h : OwC W B v L) (hb : Below B2 W W') (hv : ∀ r, v.ownBlock = some r → r < B2) : OwC W' B v L := by
  unfold OwC at *
  refine ⟨h.1, ?_⟩
  rcases h.2 with h2 | ⟨g, cap, cur, rfl, hg, hh, r⟩
  · exact Or.inl h2
  · exact Or.inr ⟨g, cap, cur, rfl, hg, by rw [hb.block g (hv g rfl)]; exact hh, r⟩

theorem fl_len {al n : Nat} {l S : List Mb} (h : l.map (fl al) = S) (hl : l.length = n) : S.length = n := by rw [← h, List.length_map]; exact hl

theorem fl_take {al k : Nat} {l S : List Mb} (h : l.map (fl al) = S) (hk : k < l.length) : S.take (k + 1) = S.take k ++ [fl al (l.getD k .z0)] := by
  subst h
  have hk2 : k < (l.map (fl al)).length := by rw [List.length_map]; exact hk
  rw [take_snoc_mb hk2]
  have e : (l.map (fl al)).getD k .z0 = fl al (l.getD k .z0) := by
    rw [getD_get hk2, getD_get hk, List.getElem_map]
  rw [e]

theorem nextR_cases {al : Nat} {hs vs : List Int} {e e2 : Int} {ms ms2 : List Mb} {x : Cm} (h : nextR al hs vs e ms = some (x, e2, ms2)) : (x.k = 1 ∧ cutR (fun y => y.n == x.n) e ms = .ok (e2, ms2)) ∨ (x.k = 2 ∧ joinR e ms ⟨x.n, x.s, false⟩ = .ok (e2, ms2)) := by
  unfold nextR at h
  split at h
  · next y hd =>
    cases h
    obtain ⟨m, _, _, h2, rfl⟩ := deadR_some hd
    exact Or.inl ⟨rfl, h2⟩
  · unfold joinA at h
    split at h
    · obtain ⟨j, _, _, _, h2, rfl⟩ := joinsR_some h
      exact Or.inr ⟨rfl, h2⟩
    · cases h

theorem wpList_appC {P : Program} (w : World) {ops : Array Oper} {rest : List Oper} {o : Oper} {a : Act} {Q : Exit → Act → World → Prop} (hgd : o.guard = none) (s x : Operand) (t : TypeId)
    (hop : o.op = .call { callee := .builtin .append, args := #[s, x], argTypes := #[t, t] })
    (i : TypeInfo) (z : Value) (ht : P.underlying t = some (.slice 37)) (hi : P.info? 37 = some i) (hz : i.zero = some z) (hsize : i.size = 4) (hby : i.bytes = 32) (hzs : z.cells.size = 4)
    (B : Nat) (v : Value) (L : List Cm) (hs : a.eval s = v) (ho : OwC w B v L) (g d : Nat) (m : Cm) (hx : a.eval x = .slice (some ⟨g, 0, none⟩) 1 d)
    (c0 : w.cell? ⟨g, 0, none⟩ = some (.int .i64 m.k)) (c1 : w.cell? ⟨g, 1, none⟩ = some (.int .i64 m.n)) (c2 : w.cell? ⟨g, 2, none⟩ = some (.int .i64 m.s)) (c3 : w.cell? ⟨g, 3, none⟩ = some (.int .i64 m.e)) (hM : L.length ≤ 1000) (hB : B ≤ w.heap.size)
    (h : ∀ v' w', OwC w' B v' (L ++ [m]) → w.grownBy w' v.ownBlock → wpList P ops Q rest (a.put o.dst v') w') : wpList P ops Q (o :: rest) a w := by
  refine wpList_append_own w hgd s x t hop B 37 i z 4 32 ht hi hz hsize hby hzs (by decide) v L.length (cellsC L) hs ho ⟨g, 0, none⟩ 1 d m.cs hx rfl ?_ ?_ (by unfold maxLen; omega) (by omega) hB ?_
  · intro j u hj
    rw [Addr.add_lit, Nat.zero_add]
    match j, hj with
    | 0, hj => cases hj; exact c0
    | 1, hj => cases hj; exact c1
    | 2, hj => cases hj; exact c2
    | 3, hj => cases hj; exact c3
  · intro u hu
    simp only [Cm.cs, List.mem_cons, List.not_mem_nil, or_false] at hu
    rcases hu with rfl | rfl | rfl | rfl <;> rfl
  · intro v' w' h1 h2 _
    refine h v' w' ?_ h2
    unfold OwC
    rw [cellsC_snoc, List.length_append]
    exact h1

set_option maxRecDepth 20000 in
set_option maxHeartbeats 8000000 in
theorem rAll_no (e : Int) (p : Option Addr) (n c : Nat) (ms : List Mb) (al : Nat) (h0 h1 h2 h3 h4 h5 v0 v1 v2 : Int) (w : World) (hal : al < 18446744073709551616) (hr : RdM w p n c ms) (hn : n ≤ 5864062014805) (hk : chk e ms = false) :
    Calls Tryd.prog 18 #[.agg #[.int .i64 e, .slice p n c], .int .u64 (al : Int), .agg #[.int .i64 h0, .int .i64 h1, .int .i64 h2, .int .i64 h3, .int .i64 h4, .int .i64 h5], .agg #[.int .i64 v0, .int .i64 v1, .int .i64 v2]] w fun r w' => r = .returned (.tuple #[.slice none 0 0, .agg #[.int .i64 0, .slice none 0 0], .int .i64 80]) ∧ Below w.heap.size w w' := by
  have hb0 : Below w.heap.size w ((((w.alloc (.cells #[.int .i64 e, .slice p n c] 28)).alloc (.cells #[.int .i64 h0, .int .i64 h1, .int .i64 h2, .int .i64 h3, .int .i64 h4, .int .i64 h5] 23)).alloc (.cells #[.int .i64 v0, .int .i64 v1, .int .i64 v2] 25)).alloc (.cells #[.int .i64 0, .slice none 0 0] 28)) := ((((Below.refl _ _).alloc (Nat.le_refl _) _).alloc (by simp) _).alloc (by simp; omega) _).alloc (by simp; omega) _
  have hX : At 28 ((((w.alloc (.cells #[.int .i64 e, .slice p n c] 28)).alloc (.cells #[.int .i64 h0, .int .i64 h1, .int .i64 h2, .int .i64 h3, .int .i64 h4, .int .i64 h5] 23)).alloc (.cells #[.int .i64 v0, .int .i64 v1, .int .i64 v2] 25)).alloc (.cells #[.int .i64 0, .slice none 0 0] 28)) w.heap.size #[.int .i64 e, .slice p n c] := (((At.new 28 w _).alloc _).alloc _).alloc _
  have hH : At 23 ((((w.alloc (.cells #[.int .i64 e, .slice p n c] 28)).alloc (.cells #[.int .i64 h0, .int .i64 h1, .int .i64 h2, .int .i64 h3, .int .i64 h4, .int .i64 h5] 23)).alloc (.cells #[.int .i64 v0, .int .i64 v1, .int .i64 v2] 25)).alloc (.cells #[.int .i64 0, .slice none 0 0] 28)) (w.heap.size + 1) #[.int .i64 h0, .int .i64 h1, .int .i64 h2, .int .i64 h3, .int .i64 h4, .int .i64 h5] := At.moved (by simp) (((At.new 23 _ _).alloc _).alloc _)
  have hV : At 25 ((((w.alloc (.cells #[.int .i64 e, .slice p n c] 28)).alloc (.cells #[.int .i64 h0, .int .i64 h1, .int .i64 h2, .int .i64 h3, .int .i64 h4, .int .i64 h5] 23)).alloc (.cells #[.int .i64 v0, .int .i64 v1, .int .i64 v2] 25)).alloc (.cells #[.int .i64 0, .slice none 0 0] 28)) (w.heap.size + 2) #[.int .i64 v0, .int .i64 v1, .int .i64 v2] := At.moved (by simp) ((At.new 25 _ _).alloc _)
  have hZ : At 28 ((((w.alloc (.cells #[.int .i64 e, .slice p n c] 28)).alloc (.cells #[.int .i64 h0, .int .i64 h1, .int .i64 h2, .int .i64 h3, .int .i64 h4, .int .i64 h5] 23)).alloc (.cells #[.int .i64 v0, .int .i64 v1, .int .i64 v2] 25)).alloc (.cells #[.int .i64 0, .slice none 0 0] 28)) (w.heap.size + 3) #[.int .i64 0, .slice none 0 0] := At.moved (by simp) (At.new 28 _ _)
  have hr0 := hr.below hb0
  have hF := fun W => from_any al W hal
  have hbl := bitL_len al
  have hget : ∀ k, k < 64 → (bitL al).getD k false = al.testBit k := fun k hk => bitL_get al hk
  have hOne := bools_one (bitL al)
  have hInf := info_set (bitL al) hbl
  generalize hw : w.heap.size = b at *
  generalize bitL al = bs at *
  go_enter Tryd.func18, Tryd.ntmps18
  go_wp2_with fail
  refine (hF _).mono ?_
  rintro r w3 ⟨rfl, hb3⟩
  have hzy : (bools (List.replicate 64 false)).size = (bools bs).size := by rw [bools_size, bools_size, hbl]; rfl
  have hY1 : Arr (w3.alloc (.cells (bools (List.replicate 64 false)) 78)) w3.heap.size (List.replicate 64 false) := heap_alloc_new _ _
  have hY2 := hY1.setRow bs
  have hbt : Below w3.heap.size w3 ((w3.alloc (.cells (bools (List.replicate 64 false)) 78)).setRow w3.heap.size (bools bs)) := ((Below.refl _ _).alloc (Nat.le_refl _) _).trans (below_setRow _ _ _ (Nat.le_refl _))
  have hG3 : b + 3 < w3.heap.size := (hZ.below hb3).lt
  have hX3 := (hX.below hb3).below hbt
  have hH3 := (hH.below hb3).below hbt
  have hV3 := (hV.below hb3).below hbt
  have hZ3 := (hZ.below hb3).below hbt
  have hr3 := (hr0.below hb3).below hbt
  have hB3' := hb0.trans (hb3.mono (by have := hb0.size; omega))
  have hB3 := hB3'.trans (hbt.mono (by have := hB3'.size; omega))
  clear hF hbt hb3 hb0 hB3' hX hH hV hZ hr0
  generalize hob : Obj.cells (bools (List.replicate 64 false)) 78 = ob at hY1 hY2 hX3 hH3 hV3 hZ3 hB3 hr3
  rw [zero64] at hob
  subst hob
  go_wp2_with (refine wpList_store_row rfl 78 _ _ rfl w3.heap.size (bools bs) rfl rfl _ _ hY1 hInf hzy hOne ?_)
  clear hY1
  generalize (w3.alloc _).setRow w3.heap.size (bools bs) = w4 at hY2 hX3 hH3 hV3 hZ3 hB3 hr3 ⊢
  generalize w3.heap.size = G at *
  (try go_wp2_with fail)
  go_loopw [11, 21] (fun v i wr => ∃ k : Nat, k = 0 ∧ i = .int .i64 k ∧ v = .slice none 0 0 ∧ RdM wr p n c ms ∧ At 28 wr b #[.int .i64 e, .slice p n c] ∧ At 23 wr (b + 1) #[.int .i64 h0, .int .i64 h1, .int .i64 h2, .int .i64 h3, .int .i64 h4, .int .i64 h5] ∧ At 25 wr (b + 2) #[.int .i64 v0, .int .i64 v1, .int .i64 v2] ∧ At 28 wr (b + 3) #[.int .i64 0, .slice none 0 0] ∧ Below b w wr) (fun _ i _ => 100 - (intOf i).toNat)
  case atStart => exact ⟨0, rfl, rfl, rfl, hr3, hX3, hH3, hV3, hZ3, hB3⟩
  case round =>
    clear hY2 hX3 hH3 hV3 hZ3 hB3 hr3
    obtain ⟨k, hk00, rfl, rfl, hrw, hX, hH, hV, hZ, hb⟩ := hrel
    have hkk : (k : Int) < 100 := by omega
    have hCk := rCheck_any e p n c ms wr hrw hn
    unfold chkV at hCk
    rw [hk] at hCk
    simp only [Bool.false_eq_true, if_false] at hCk
    have hNx := fun W hx => rNext_any e p n c ms al h0 h1 h2 h3 h4 h5 v0 v1 v2 W hal hx hn
    have hpv : pnV al [h0, h1, h2, h3, h4, h5] [v0, v1, v2] e ms = .tuple #[.agg #[.int .i64 0, .int .i64 0, .int .i64 0, .int .i64 0], .bool false, .int .i64 80] := by unfold pnV; rw [hk]; rfl
    rw [hpv] at hNx
    obtain ⟨x0, x1⟩ := hX.two
    clear hpv hk hr hk00
    go_wp2_with fail
    refine hCk.mono ?_
    rintro r w5 ⟨rfl, hb5⟩
    have hB5 := hb.trans (hb5.mono (by have := hb.size; omega))
    obtain ⟨x0, x1⟩ := (hX.below hb5).two
    obtain ⟨m0, m1, m2, m3, m4, m5⟩ := (hH.below hb5).six
    obtain ⟨n0, n1, n2⟩ := (hV.below hb5).three
    have hZ5 := hZ.below hb5
    have hr5 := hrw.below hb5
    clear hCk hX hH hV hZ hb hb5 hrw
    go_wp2_with fail
    refine (hNx _ hr5).mono ?_
    rintro r w6 ⟨rfl, hb6⟩
    have hba := below_alloc w6 (.cells #[.int .i64 0, .int .i64 0, .int .i64 0, .int .i64 0] 37)
    have hB6 := hB5.trans (hb6.mono (by have := hB5.size; omega))
    have hB7 := hB6.trans (hba.mono (by have := hB6.size; omega))
    have hZ7 := (hZ5.below hb6).below hba
    obtain ⟨c0, c1⟩ := hZ7.two
    obtain ⟨f0, f1, f2, f3⟩ := hZ7.free4
    clear hNx hr5 hB5 hB6 hb6 hba hZ5 x0 x1 m0 m1 m2 m3 m4 m5 n0 n1 n2
    go_wp2_with fail
    exact bodyPost_ret (results_all (u := 8) (p := 9) (t := 10) rfl _ _ (b + 3) _ _ rfl (hZ7.put2 _ _)) rfl ⟨rfl, Below.put2 hB7 (by omega) _ _⟩

set_option linter.unusedVariables false in
set_option maxRecDepth 20000 in
set_option maxHeartbeats 8000000 in
theorem rAll_bad (e : Int) (p : Option Addr) (n c : Nat) (ms : List Mb) (al : Nat) (h0 h1 h2 h3 h4 h5 v0 v1 v2 : Int) (w : World) (hal : al < 18446744073709551616) (hr : RdM w p n c ms) (hn : n ≤ 5864062014805) (hk0 : chk e ms = true) (hp : planC [h0, h1, h2, h3, h4, h5] [v0, v1, v2] = false) :
    Calls Tryd.prog 18 #[.agg #[.int .i64 e, .slice p n c], .int .u64 (al : Int), .agg #[.int .i64 h0, .int .i64 h1, .int .i64 h2, .int .i64 h3, .int .i64 h4, .int .i64 h5], .agg #[.int .i64 v0, .int .i64 v1, .int .i64 v2]] w fun r w' => r = .returned (.tuple #[.slice none 0 0, .agg #[.int .i64 0, .slice none 0 0], .int .i64 1]) ∧ Below w.heap.size w w' := by
  obtain ⟨i0, hi0, hz0, hz1, hz2⟩ := info_parts infoM
  have hb0 : Below w.heap.size w ((((w.alloc (.cells #[.int .i64 e, .slice p n c] 28)).alloc (.cells #[.int .i64 h0, .int .i64 h1, .int .i64 h2, .int .i64 h3, .int .i64 h4, .int .i64 h5] 23)).alloc (.cells #[.int .i64 v0, .int .i64 v1, .int .i64 v2] 25)).alloc (.cells #[.int .i64 0, .slice none 0 0] 28)) := ((((Below.refl _ _).alloc (Nat.le_refl _) _).alloc (by simp) _).alloc (by simp; omega) _).alloc (by simp; omega) _
  have hX : At 28 ((((w.alloc (.cells #[.int .i64 e, .slice p n c] 28)).alloc (.cells #[.int .i64 h0, .int .i64 h1, .int .i64 h2, .int .i64 h3, .int .i64 h4, .int .i64 h5] 23)).alloc (.cells #[.int .i64 v0, .int .i64 v1, .int .i64 v2] 25)).alloc (.cells #[.int .i64 0, .slice none 0 0] 28)) w.heap.size #[.int .i64 e, .slice p n c] := (((At.new 28 w _).alloc _).alloc _).alloc _
  have hH : At 23 ((((w.alloc (.cells #[.int .i64 e, .slice p n c] 28)).alloc (.cells #[.int .i64 h0, .int .i64 h1, .int .i64 h2, .int .i64 h3, .int .i64 h4, .int .i64 h5] 23)).alloc (.cells #[.int .i64 v0, .int .i64 v1, .int .i64 v2] 25)).alloc (.cells #[.int .i64 0, .slice none 0 0] 28)) (w.heap.size + 1) #[.int .i64 h0, .int .i64 h1, .int .i64 h2, .int .i64 h3, .int .i64 h4, .int .i64 h5] := At.moved (by simp) (((At.new 23 _ _).alloc _).alloc _)
  have hV : At 25 ((((w.alloc (.cells #[.int .i64 e, .slice p n c] 28)).alloc (.cells #[.int .i64 h0, .int .i64 h1, .int .i64 h2, .int .i64 h3, .int .i64 h4, .int .i64 h5] 23)).alloc (.cells #[.int .i64 v0, .int .i64 v1, .int .i64 v2] 25)).alloc (.cells #[.int .i64 0, .slice none 0 0] 28)) (w.heap.size + 2) #[.int .i64 v0, .int .i64 v1, .int .i64 v2] := At.moved (by simp) ((At.new 25 _ _).alloc _)
  have hZ : At 28 ((((w.alloc (.cells #[.int .i64 e, .slice p n c] 28)).alloc (.cells #[.int .i64 h0, .int .i64 h1, .int .i64 h2, .int .i64 h3, .int .i64 h4, .int .i64 h5] 23)).alloc (.cells #[.int .i64 v0, .int .i64 v1, .int .i64 v2] 25)).alloc (.cells #[.int .i64 0, .slice none 0 0] 28)) (w.heap.size + 3) #[.int .i64 0, .slice none 0 0] := At.moved (by simp) (At.new 28 _ _)
  have hr0 := hr.below hb0
  have hF := fun W => from_any al W hal
  have hbl := bitL_len al
  have hget : ∀ k, k < 64 → (bitL al).getD k false = al.testBit k := fun k hk => bitL_get al hk
  have hOne := bools_one (bitL al)
  have hInf := info_set (bitL al) hbl
  generalize hw : w.heap.size = b at *
  generalize bitL al = bs at *
  go_enter Tryd.func18, Tryd.ntmps18
  go_wp2_with fail
  refine (hF _).mono ?_
  rintro r w3 ⟨rfl, hb3⟩
  have hzy : (bools (List.replicate 64 false)).size = (bools bs).size := by rw [bools_size, bools_size, hbl]; rfl
  have hY1 : Arr (w3.alloc (.cells (bools (List.replicate 64 false)) 78)) w3.heap.size (List.replicate 64 false) := heap_alloc_new _ _
  have hY2 := hY1.setRow bs
  have hbt : Below w3.heap.size w3 ((w3.alloc (.cells (bools (List.replicate 64 false)) 78)).setRow w3.heap.size (bools bs)) := ((Below.refl _ _).alloc (Nat.le_refl _) _).trans (below_setRow _ _ _ (Nat.le_refl _))
  have hG3 : b + 3 < w3.heap.size := (hZ.below hb3).lt
  have hX3 := (hX.below hb3).below hbt
  have hH3 := (hH.below hb3).below hbt
  have hV3 := (hV.below hb3).below hbt
  have hZ3 := (hZ.below hb3).below hbt
  have hr3 := (hr0.below hb3).below hbt
  have hB3' := hb0.trans (hb3.mono (by have := hb0.size; omega))
  have hB3 := hB3'.trans (hbt.mono (by have := hB3'.size; omega))
  clear hF hbt hb3 hb0 hB3' hX hH hV hZ hr0
  generalize hob : Obj.cells (bools (List.replicate 64 false)) 78 = ob at hY1 hY2 hX3 hH3 hV3 hZ3 hB3 hr3
  rw [zero64] at hob
  subst hob
  go_wp2_with (refine wpList_store_row rfl 78 _ _ rfl w3.heap.size (bools bs) rfl rfl _ _ hY1 hInf hzy hOne ?_)
  clear hY1
  generalize (w3.alloc _).setRow w3.heap.size (bools bs) = w4 at hY2 hX3 hH3 hV3 hZ3 hB3 hr3 ⊢
  generalize w3.heap.size = G at *
  (try go_wp2_with fail)
  go_loopw [11, 21] (fun v i wr => ∃ (k : Nat) (e' : Int) (q' : Option Addr) (n' c' : Nat) (ms' : List Mb), k = 0 ∧ i = .int .i64 k ∧ v = .slice none 0 0 ∧ chk e' ms' = true ∧ RdM wr q' n' c' ms' ∧ Arr wr G bs ∧ At 28 wr b #[.int .i64 e', .slice q' n' c'] ∧ At 23 wr (b + 1) #[.int .i64 h0, .int .i64 h1, .int .i64 h2, .int .i64 h3, .int .i64 h4, .int .i64 h5] ∧ At 25 wr (b + 2) #[.int .i64 v0, .int .i64 v1, .int .i64 v2] ∧ At 28 wr (b + 3) #[.int .i64 0, .slice none 0 0] ∧ Below b w wr) (fun _ i _ => 100 - (intOf i).toNat)
  case atStart => exact ⟨0, e, p, n, c, ms, rfl, rfl, rfl, hk0, hr3, hY2, hX3, hH3, hV3, hZ3, hB3⟩
  case round =>
    clear hY2 hX3 hH3 hV3 hZ3 hB3 hr3 hk0 hr hn
    obtain ⟨k, e', q', n', c', ms', hk00, rfl, rfl, hk, hr, hA, hX, hH, hV, hZ, hb⟩ := hrel
    have hkk : (k : Int) < 100 := by omega
    have hn6 : n' ≤ 6 := by have := (chk_parts hk).2.2.2; have := hr.len; omega
    have hn' : n' ≤ 5864062014805 := by omega
    have hpv : pnV al [h0, h1, h2, h3, h4, h5] [v0, v1, v2] e' (readyA al e' ms') = .tuple #[.agg #[.int .i64 0, .int .i64 0, .int .i64 0, .int .i64 0], .bool false, .int .i64 1] := by unfold pnV; rw [readyA_chk hk, hp]; rfl
    have hNx := fun q d W hx => rNext_any e' q n' d (readyA al e' ms') al h0 h1 h2 h3 h4 h5 v0 v1 v2 W hal hx hn'
    rw [hpv] at hNx
    clear hpv hp hk00
    have hCk := rCheck_any e' q' n' c' ms' wr hr hn'
    unfold chkV at hCk
    rw [hk] at hCk
    simp only [if_true] at hCk
    obtain ⟨x0, x1⟩ := hX.two
    obtain ⟨wq, hwq⟩ : ∃ x, x = wr := ⟨_, rfl⟩
    rw [← hwq] at hCk hX hH hV hZ hA hr hb x0 x1  ⊢
    clear hwq
    go_wp2_with fail
    refine hCk.mono ?_
    rintro r w5 ⟨rfl, hb5⟩
    have hba := below_alloc w5 (.cells #[.int .i64 e', .slice none 0 0] 28)
    have hO0 := Ob.new w5 e'
    have hB5 := hb.trans (hb5.mono (by have := hb.size; omega))
    have hB6 := hB5.trans (hba.mono (by have := hB5.size; omega))
    have hX6 := (hX.below hb5).below hba
    have hH6 := (hH.below hb5).below hba
    have hV6 := (hV.below hb5).below hba
    have hZ6 := (hZ.below hb5).below hba
    have hA6 := (hA.below hb5).below hba
    have hr6 := (hr.below hb5).below hba
    have hwX : wq.heap.size ≤ w5.heap.size := hb5.size
    have hqX : ∀ a, q' = some a → 0 < n' → a.block < w5.heap.size := (hr.below hb5).blk
    have hGX : G < w5.heap.size := (hA.below hb5).lt
    have hb3X : b + 3 < w5.heap.size := (hZ.below hb5).lt
    have hbX : b < w5.heap.size := by omega
    have hb1X : b + 1 < w5.heap.size := by omega
    have hb2X : b + 2 < w5.heap.size := by omega
    obtain ⟨x0, x1⟩ := (hX.below hb5).two
    obtain ⟨x2, x3⟩ := hX6.two
    clear hCk hX hH hV hZ hA hr hb hb5 hba hB5
    go_wp2_with fail
    have hwX6 : w5.heap.size < (w5.alloc (.cells #[.int .i64 e', .slice none 0 0] 28)).heap.size := by simp
    generalize (w5.alloc (.cells #[.int .i64 e', .slice none 0 0] 28)) = w6 at *
    clear x0 x1
    obtain ⟨S, HS⟩ : ∃ z, Hid (ms'.map (fl al) = z) := ⟨_, rfl⟩
    have HSA : Hid (readyA al e' ms' = S) := (readyA_map hk).trans HS.out
    have HSl : Hid (S.length = n') := fl_len HS.out hr6.len
    have HT0 : Hid (∀ k2, k2 < n' → S.take (k2 + 1) = S.take k2 ++ [fl al (ms'.getD k2 .z0)]) := fun k2 h2 => fl_take HS.out (by rw [hr6.len]; exact h2)
    have Hgm : Hid (∀ m ∈ ms', isMb m = true) := ((chk_iff e' ms').1 hk).2.2.2.1
    generalize w5.heap.size = X at *
    clear HS
    go_loopw [32] (fun jv wr => ∃ (k2 : Nat) (v2 : Value), k2 ≤ n' ∧ jv = .int .i64 k2 ∧ Ob wr X e' v2 (S.take k2) ∧ Below X w6 wr) (fun jv _ => n' - (intOf jv).toNat)
    case atStart => exact ⟨0, .slice none 0 0, Nat.zero_le _, rfl, by rw [List.take_zero]; exact hO0, Below.refl _ _⟩
    case round =>
      clear hO0
      obtain ⟨k2, v2, hk2n, rfl, hO, hb2⟩ := hrel
      have hrX := hr6.low hb2 hqX
      by_cases hk2 : k2 < n'
      · have hk2l : k2 < ms'.length := by rw [hr6.len]; exact hk2
        obtain ⟨g1, o1, hpe, cc1⟩ := hrX.cells (by omega)
        subst hpe
        obtain ⟨p1, p2, p3⟩ := cc1 k2 hk2
        have hmb := (isMb_iff _).1 (Hgm.out _ (getD_mb hk2l))
        have HT := HT0.out k2 hk2
        have hML : (S.take k2).length ≤ n' := by rw [List.length_take]; omega
        clear cc1 hrX HT0
        generalize ms'.getD k2 .z0 = m at *
        generalize S.take k2 = M2 at *
        obtain ⟨fn, fs, ff⟩ := m
        dsimp only at p1 p2 p3 hmb
        obtain ⟨hm0, hm5, _, _⟩ := hmb
        obtain ⟨j, rfl⟩ := Int.eq_ofNat_of_zero_le hm0
        have hj64 : j < 64 := by omega
        have y0 := (hA6.low hb2 hGX).cell (i := j) (by rw [hbl]; exact hj64)
        rw [hget j hj64] at y0
        have hhas : hasN al (j : Int) = al.testBit j := by unfold hasN; rw [decide_eq_true (by omega), Int.toNat_natCast]; rfl
        unfold fl at HT
        dsimp only at HT
        rw [hhas] at HT
        clear hget hhas
        cases ff with
        | false =>
          have HT2 : Hid (S.take (k2 + 1) = M2 ++ [⟨(j : Int), fs, false⟩]) := by unfold Hid; rw [HT]; rfl
          clear HT
          have hba : Below wr.heap.size wr ((wr.alloc (.cells #[.int .i64 (j : Int), .int .i64 fs, .bool false] 45)).alloc (.cells #[.int .i64 (j : Int), .int .i64 fs, .bool false] 45)) := ((Below.refl _ _).alloc (Nat.le_refl _) _).alloc (by simp) _
          have hO2 := hO.below hba
          have u1 := hO.c1
          have u2 : (wr.alloc (.cells #[.int .i64 (j : Int), .int .i64 fs, .bool false] 45)).cell? ⟨X, 1, none⟩ = some v2 := (((Below.refl wr.heap.size wr).alloc (Nat.le_refl _) (.cells #[.int .i64 (j : Int), .int .i64 fs, .bool false] 45)).cell (p := ⟨X, 1, none⟩) hO.lt).trans u1
          have hsz : X + 1 ≤ ((wr.alloc (.cells #[.int .i64 (j : Int), .int .i64 fs, .bool false] 45)).alloc (.cells #[.int .i64 (j : Int), .int .i64 fs, .bool false] 45)).heap.size := by have := hO.lt; simp; omega
          clear y0
          clear hNx hk hB6 hX6 hH6 hV6 hZ6 hA6 hr6 HSA HSl Hgm hbl hOne hInf hzy hal hqX x2 x3 hwX hwX6 hm0
          go_wp2_with (at_builtin; refine wpList_appOwM _ rfl (.tmp 47) (.tmp 49) 26 rfl i0 (.agg #[.int .i64 0, .int .i64 0, .bool false]) Tryd.underlying26 hi0 hz0 hz1 hz2 rfl (X + 1) v2 M2 rfl hO2.ow (wr.heap.size + 1) 1 ⟨(j : Int), fs, false⟩ rfl (by simp) (by simp) (by simp) (by omega) hsz ?_)
          intro v' w' h1 h2
          obtain ⟨q9, c9, rfl, _, _⟩ := h1.rd
          simp only [List.length_append, List.length_singleton] at h1
          have s1 := (h2.cell (p := ⟨X, 1, none⟩) (Nat.lt_succ_self _)).trans hO2.c1
          have s2 := (h2.frozen (p := ⟨X, 1, none⟩) (Nat.lt_succ_self _)).trans hO2.fz
          go_wp2_with fail
          go_roundw
          case rel => exact ⟨k2 + 1, _, by omega, by go_num, by rw [HT2.out]; exact hO2.app h2 h1, ((hb2.trans (hba.mono (by have := hb2.size; have := hO.lt; omega))).trans (h2.mono (Nat.le_succ _))).setCell (Nat.le_refl _) _⟩
          case measure => simp [intOf]; omega
        | true =>
          cases hbit : al.testBit j with
          | true =>
            rw [hbit] at y0 HT
            have y1 := (((Below.refl wr.heap.size wr).alloc (Nat.le_refl _) (.cells #[.int .i64 (j : Int), .int .i64 fs, .bool true] 45)).cell (p := ⟨G, j, none⟩) (World.block_lt_of_cell? _ _ y0)).trans y0
            clear hbit
            have HT2 : Hid (S.take (k2 + 1) = M2 ++ [⟨(j : Int), fs, false⟩]) := by unfold Hid; rw [HT]; rfl
            clear HT
            have hba : Below wr.heap.size wr ((wr.alloc (.cells #[.int .i64 (j : Int), .int .i64 fs, .bool false] 45)).alloc (.cells #[.int .i64 (j : Int), .int .i64 fs, .bool false] 45)) := ((Below.refl _ _).alloc (Nat.le_refl _) _).alloc (by simp) _
            have hO2 := hO.below hba
            have u1 := hO.c1
            have u2 : (wr.alloc (.cells #[.int .i64 (j : Int), .int .i64 fs, .bool false] 45)).cell? ⟨X, 1, none⟩ = some v2 := (((Below.refl wr.heap.size wr).alloc (Nat.le_refl _) (.cells #[.int .i64 (j : Int), .int .i64 fs, .bool false] 45)).cell (p := ⟨X, 1, none⟩) hO.lt).trans u1
            have hsz : X + 1 ≤ ((wr.alloc (.cells #[.int .i64 (j : Int), .int .i64 fs, .bool false] 45)).alloc (.cells #[.int .i64 (j : Int), .int .i64 fs, .bool false] 45)).heap.size := by have := hO.lt; simp; omega
            clear hNx hk hB6 hX6 hH6 hV6 hZ6 hA6 hr6 HSA HSl Hgm hbl hOne hInf hzy hal hqX x2 x3 hwX hwX6 hm0
            go_wp2_with (at_builtin; refine wpList_appOwM _ rfl (.tmp 47) (.tmp 49) 26 rfl i0 (.agg #[.int .i64 0, .int .i64 0, .bool false]) Tryd.underlying26 hi0 hz0 hz1 hz2 rfl (X + 1) v2 M2 rfl hO2.ow (wr.heap.size + 1) 1 ⟨(j : Int), fs, false⟩ rfl (by simp) (by simp) (by simp) (by omega) hsz ?_)
            intro v' w' h1 h2
            obtain ⟨q9, c9, rfl, _, _⟩ := h1.rd
            simp only [List.length_append, List.length_singleton] at h1
            have s1 := (h2.cell (p := ⟨X, 1, none⟩) (Nat.lt_succ_self _)).trans hO2.c1
            have s2 := (h2.frozen (p := ⟨X, 1, none⟩) (Nat.lt_succ_self _)).trans hO2.fz
            go_wp2_with fail
            go_roundw
            case rel => exact ⟨k2 + 1, _, by omega, by go_num, by rw [HT2.out]; exact hO2.app h2 h1, ((hb2.trans (hba.mono (by have := hb2.size; have := hO.lt; omega))).trans (h2.mono (Nat.le_succ _))).setCell (Nat.le_refl _) _⟩
            case measure => simp [intOf]; omega
          | false =>
            rw [hbit] at y0 HT
            have y1 := (((Below.refl wr.heap.size wr).alloc (Nat.le_refl _) (.cells #[.int .i64 (j : Int), .int .i64 fs, .bool true] 45)).cell (p := ⟨G, j, none⟩) (World.block_lt_of_cell? _ _ y0)).trans y0
            clear hbit
            have HT2 : Hid (S.take (k2 + 1) = M2 ++ [⟨(j : Int), fs, true⟩]) := by unfold Hid; rw [HT]; rfl
            clear HT
            have hba : Below wr.heap.size wr ((wr.alloc (.cells #[.int .i64 (j : Int), .int .i64 fs, .bool true] 45)).alloc (.cells #[.int .i64 (j : Int), .int .i64 fs, .bool true] 45)) := ((Below.refl _ _).alloc (Nat.le_refl _) _).alloc (by simp) _
            have hO2 := hO.below hba
            have u1 := hO.c1
            have u2 : (wr.alloc (.cells #[.int .i64 (j : Int), .int .i64 fs, .bool true] 45)).cell? ⟨X, 1, none⟩ = some v2 := (((Below.refl wr.heap.size wr).alloc (Nat.le_refl _) (.cells #[.int .i64 (j : Int), .int .i64 fs, .bool true] 45)).cell (p := ⟨X, 1, none⟩) hO.lt).trans u1
            have hsz : X + 1 ≤ ((wr.alloc (.cells #[.int .i64 (j : Int), .int .i64 fs, .bool true] 45)).alloc (.cells #[.int .i64 (j : Int), .int .i64 fs, .bool true] 45)).heap.size := by have := hO.lt; simp; omega
            clear hNx hk hB6 hX6 hH6 hV6 hZ6 hA6 hr6 HSA HSl Hgm hbl hOne hInf hzy hal hqX x2 x3 hwX hwX6 hm0
            go_wp2_with (at_builtin; refine wpList_appOwM _ rfl (.tmp 47) (.tmp 49) 26 rfl i0 (.agg #[.int .i64 0, .int .i64 0, .bool false]) Tryd.underlying26 hi0 hz0 hz1 hz2 rfl (X + 1) v2 M2 rfl hO2.ow (wr.heap.size + 1) 1 ⟨(j : Int), fs, true⟩ rfl (by simp) (by simp) (by simp) (by omega) hsz ?_)
            intro v' w' h1 h2
            obtain ⟨q9, c9, rfl, _, _⟩ := h1.rd
            simp only [List.length_append, List.length_singleton] at h1
            have s1 := (h2.cell (p := ⟨X, 1, none⟩) (Nat.lt_succ_self _)).trans hO2.c1
            have s2 := (h2.frozen (p := ⟨X, 1, none⟩) (Nat.lt_succ_self _)).trans hO2.fz
            go_wp2_with fail
            go_roundw
            case rel => exact ⟨k2 + 1, _, by omega, by go_num, by rw [HT2.out]; exact hO2.app h2 h1, ((hb2.trans (hba.mono (by have := hb2.size; have := hO.lt; omega))).trans (h2.mono (Nat.le_succ _))).setCell (Nat.le_refl _) _⟩
            case measure => simp [intOf]; omega
      · have hOS : Ob wr X e' v2 S := by rw [List.take_of_length_le (by rw [HSl.out]; omega)] at hO; exact hO
        obtain ⟨q7, c7, rfl, hq7, hr7'⟩ := hOS.ow.rd
        rw [HSl.out] at hr7' hOS
        have hr7 := hr7'.put (.int .i64 e') (.slice q7 n' c7) (fun a ha _ => by have := hq7 a ha; omega : ∀ a, q7 = some a → 0 < n' → a.block ≠ b)
        have hX7 := (hX6.low hb2 hbX).put2 (.int .i64 e') (.slice q7 n' c7)
        have hH7 := (hH6.low hb2 hb1X).other2 b (by omega) (.int .i64 e') (.slice q7 n' c7)
        have hV7 := (hV6.low hb2 hb2X).other2 b (by omega) (.int .i64 e') (.slice q7 n' c7)
        have hZ7 := (hZ6.low hb2 hb3X).other2 b (by omega) (.int .i64 e') (.slice q7 n' c7)
        have hA7 := ((hA6.low hb2 hGX).other b 0 (.int .i64 e') (by omega)).other b 1 (.slice q7 n' c7) (by omega)
        have hB7 := Below.put2 (hB6.trans (hb2.mono (by omega))) (Nat.le_refl b) (.int .i64 e') (.slice q7 n' c7)
        obtain ⟨x0, x1⟩ := (hX6.low hb2 hbX).two
        obtain ⟨f0, f1, f2, f3⟩ := (hX6.low hb2 hbX).free4
        obtain ⟨o0, o1, of, _⟩ := hOS
        rw [HSA.out] at hNx
        obtain ⟨m0, m1, m2, m3, m4, m5⟩ := (hH6.low hb2 hb1X).six
        obtain ⟨n0, n1, n2⟩ := (hV6.low hb2 hb2X).three
        have hNx7 := hNx q7 c7 _ hr7
        clear hNx hX6 hH6 hV6 hZ6 hA6 hr6 hB6 hrX
        go_wp2_with fail
        refine hNx7.mono ?_
        rintro r w8 ⟨rfl, hb8⟩
        have hba := below_alloc w8 (.cells #[.int .i64 0, .int .i64 0, .int .i64 0, .int .i64 0] 37)
        have hB8 := hB7.trans (hb8.mono (by have := hB7.size; omega))
        have hB9 := hB8.trans (hba.mono (by have := hB8.size; omega))
        have hZ9 := (hZ7.below hb8).below hba
        obtain ⟨d0, d1⟩ := hZ9.two
        obtain ⟨g0, g1, g2, g3⟩ := hZ9.free4
        clear hNx7 hX7 hH7 hV7 hZ7 hA7 hr7 hB7 hB8 hb8 hba x0 x1 x2 x3 m0 m1 m2 m3 m4 m5 n0 n1 n2 o0 o1 of f0 f1 f2 f3
        go_wp2_with fail
        exact bodyPost_ret (results_all (u := 8) (p := 9) (t := 10) rfl _ _ (b + 3) _ _ rfl (hZ9.put2 _ _)) rfl ⟨rfl, Below.put2 hB9 (by omega) _ _⟩

set_option linter.unusedVariables false in
set_option maxRecDepth 20000 in
set_option maxHeartbeats 8000000 in
theorem rAll_ok (e : Int) (p : Option Addr) (n c : Nat) (ms : List Mb) (al : Nat) (h0 h1 h2 h3 h4 h5 v0 v1 v2 : Int) (w : World) (hal : al < 18446744073709551616) (hr : RdM w p n c ms) (hn : n ≤ 5864062014805) (hk0 : chk e ms = true) (hp : planC [h0, h1, h2, h3, h4, h5] [v0, v1, v2] = true) :
    Calls Tryd.prog 18 #[.agg #[.int .i64 e, .slice p n c], .int .u64 (al : Int), .agg #[.int .i64 h0, .int .i64 h1, .int .i64 h2, .int .i64 h3, .int .i64 h4, .int .i64 h5], .agg #[.int .i64 v0, .int .i64 v1, .int .i64 v2]] w fun r w' => ∃ L e2 ms2 q c q2 c2, r = .returned (.tuple #[.slice q (L : List Cm).length c, .agg #[.int .i64 e2, .slice q2 (ms2 : List Mb).length c2], .int .i64 0]) ∧ Steps al [h0, h1, h2, h3, h4, h5] [v0, v1, v2] e ms L e2 ms2 ∧ RdC w' q L.length c L ∧ RdM w' q2 ms2.length c2 ms2 ∧ Below w.heap.size w w' := by
  obtain ⟨i0, hi0, hz0, hz1, hz2⟩ := info_parts infoM
  obtain ⟨j0, hj0, hy0, hy1, hy2⟩ := info_parts infoCm
  have hmu : muA al ms ≤ 12 := by
    have := dead_live al ms
    have := (chk_parts hk0).2.2.2
    unfold muA
    omega
  have hb0 : Below w.heap.size w ((((w.alloc (.cells #[.int .i64 e, .slice p n c] 28)).alloc (.cells #[.int .i64 h0, .int .i64 h1, .int .i64 h2, .int .i64 h3, .int .i64 h4, .int .i64 h5] 23)).alloc (.cells #[.int .i64 v0, .int .i64 v1, .int .i64 v2] 25)).alloc (.cells #[.int .i64 0, .slice none 0 0] 28)) := ((((Below.refl _ _).alloc (Nat.le_refl _) _).alloc (by simp) _).alloc (by simp; omega) _).alloc (by simp; omega) _
  have hX : At 28 ((((w.alloc (.cells #[.int .i64 e, .slice p n c] 28)).alloc (.cells #[.int .i64 h0, .int .i64 h1, .int .i64 h2, .int .i64 h3, .int .i64 h4, .int .i64 h5] 23)).alloc (.cells #[.int .i64 v0, .int .i64 v1, .int .i64 v2] 25)).alloc (.cells #[.int .i64 0, .slice none 0 0] 28)) w.heap.size #[.int .i64 e, .slice p n c] := (((At.new 28 w _).alloc _).alloc _).alloc _
  have hH : At 23 ((((w.alloc (.cells #[.int .i64 e, .slice p n c] 28)).alloc (.cells #[.int .i64 h0, .int .i64 h1, .int .i64 h2, .int .i64 h3, .int .i64 h4, .int .i64 h5] 23)).alloc (.cells #[.int .i64 v0, .int .i64 v1, .int .i64 v2] 25)).alloc (.cells #[.int .i64 0, .slice none 0 0] 28)) (w.heap.size + 1) #[.int .i64 h0, .int .i64 h1, .int .i64 h2, .int .i64 h3, .int .i64 h4, .int .i64 h5] := At.moved (by simp) (((At.new 23 _ _).alloc _).alloc _)
  have hV : At 25 ((((w.alloc (.cells #[.int .i64 e, .slice p n c] 28)).alloc (.cells #[.int .i64 h0, .int .i64 h1, .int .i64 h2, .int .i64 h3, .int .i64 h4, .int .i64 h5] 23)).alloc (.cells #[.int .i64 v0, .int .i64 v1, .int .i64 v2] 25)).alloc (.cells #[.int .i64 0, .slice none 0 0] 28)) (w.heap.size + 2) #[.int .i64 v0, .int .i64 v1, .int .i64 v2] := At.moved (by simp) ((At.new 25 _ _).alloc _)
  have hZ : At 28 ((((w.alloc (.cells #[.int .i64 e, .slice p n c] 28)).alloc (.cells #[.int .i64 h0, .int .i64 h1, .int .i64 h2, .int .i64 h3, .int .i64 h4, .int .i64 h5] 23)).alloc (.cells #[.int .i64 v0, .int .i64 v1, .int .i64 v2] 25)).alloc (.cells #[.int .i64 0, .slice none 0 0] 28)) (w.heap.size + 3) #[.int .i64 0, .slice none 0 0] := At.moved (by simp) (At.new 28 _ _)
  have hr0 := hr.below hb0
  have hF := fun W => from_any al W hal
  have hbl := bitL_len al
  have hget : ∀ k, k < 64 → (bitL al).getD k false = al.testBit k := fun k hk => bitL_get al hk
  have hOne := bools_one (bitL al)
  have hInf := info_set (bitL al) hbl
  generalize hw : w.heap.size = b at *
  generalize bitL al = bs at *
  go_enter Tryd.func18, Tryd.ntmps18
  go_wp2_with fail
  refine (hF _).mono ?_
  rintro r w3 ⟨rfl, hb3⟩
  have hzy : (bools (List.replicate 64 false)).size = (bools bs).size := by rw [bools_size, bools_size, hbl]; rfl
  have hY1 : Arr (w3.alloc (.cells (bools (List.replicate 64 false)) 78)) w3.heap.size (List.replicate 64 false) := heap_alloc_new _ _
  have hY2 := hY1.setRow bs
  have hbt : Below w3.heap.size w3 ((w3.alloc (.cells (bools (List.replicate 64 false)) 78)).setRow w3.heap.size (bools bs)) := ((Below.refl _ _).alloc (Nat.le_refl _) _).trans (below_setRow _ _ _ (Nat.le_refl _))
  have hG3 : b + 3 < w3.heap.size := (hZ.below hb3).lt
  have hX3 := (hX.below hb3).below hbt
  have hH3 := (hH.below hb3).below hbt
  have hV3 := (hV.below hb3).below hbt
  have hZ3 := (hZ.below hb3).below hbt
  have hr3 := (hr0.below hb3).below hbt
  have hB3' := hb0.trans (hb3.mono (by have := hb0.size; omega))
  have hB3 := hB3'.trans (hbt.mono (by have := hB3'.size; omega))
  clear hF hbt hb3 hb0 hB3' hX hH hV hZ hr0
  generalize hob : Obj.cells (bools (List.replicate 64 false)) 78 = ob at hY1 hY2 hX3 hH3 hV3 hZ3 hB3 hr3
  rw [zero64] at hob
  subst hob
  go_wp2_with (refine wpList_store_row rfl 78 _ _ rfl w3.heap.size (bools bs) rfl rfl _ _ hY1 hInf hzy hOne ?_)
  clear hY1
  generalize (w3.alloc _).setRow w3.heap.size (bools bs) = w4 at hY2 hX3 hH3 hV3 hZ3 hB3 hr3 ⊢
  generalize w3.heap.size = G at *
  (try go_wp2_with fail)
  go_loopw [11, 21] (fun v i wr => ∃ (k : Nat) (L : List Cm) (e' : Int) (q' : Option Addr) (n' c' : Nat) (ms' : List Mb), i = .int .i64 k ∧ OwC wr (G + 1) v L ∧ chk e' ms' = true ∧ Hid (L.length = k) ∧ Hid (k + muA al ms' ≤ muA al ms) ∧ Hid (∀ l e3 ms3, Steps al [h0, h1, h2, h3, h4, h5] [v0, v1, v2] e' ms' l e3 ms3 → Steps al [h0, h1, h2, h3, h4, h5] [v0, v1, v2] e ms (L ++ l) e3 ms3) ∧ RdM wr q' n' c' ms' ∧ Arr wr G bs ∧ At 28 wr b #[.int .i64 e', .slice q' n' c'] ∧ At 23 wr (b + 1) #[.int .i64 h0, .int .i64 h1, .int .i64 h2, .int .i64 h3, .int .i64 h4, .int .i64 h5] ∧ At 25 wr (b + 2) #[.int .i64 v0, .int .i64 v1, .int .i64 v2] ∧ At 28 wr (b + 3) #[.int .i64 0, .slice none 0 0] ∧ Below b w wr) (fun _ i _ => 100 - (intOf i).toNat)
  case atStart => exact ⟨0, [], e, p, n, c, ms, rfl, OwC.nil _ _, hk0, rfl, by show 0 + _ ≤ _; omega, (fun l e3 ms3 h => h), hr3, hY2, hX3, hH3, hV3, hZ3, hB3⟩
  case round =>
    clear hY2 hX3 hH3 hV3 hZ3 hB3 hr3 hk0 hr hn
    obtain ⟨k, L, e', q', n', c', ms', rfl, hOC, hk, HLk, HKm, HT9, hr, hA, hX, hH, hV, hZ, hb⟩ := hrel
    obtain ⟨qv, cv, rfl⟩ := hOC.shape
    have hk12 : k + muA al ms' ≤ 12 := Nat.le_trans HKm.out hmu
    have hkk : (k : Int) < 100 := by omega
    have hL12 : L.length ≤ 12 := by rw [HLk.out]; omega
    have hn6 : n' ≤ 6 := by have := (chk_parts hk).2.2.2; have := hr.len; omega
    have hn' : n' ≤ 5864062014805 := by omega
    obtain ⟨R, HR⟩ : ∃ z, Hid (nextR al [h0, h1, h2, h3, h4, h5] [v0, v1, v2] e' (readyA al e' ms') = z) := ⟨_, rfl⟩
    have hpv : pnV al [h0, h1, h2, h3, h4, h5] [v0, v1, v2] e' (readyA al e' ms') = okV R := by unfold pnV; rw [readyA_chk hk, hp, HR.out]; rfl
    have hNx := fun q d W hx => rNext_any e' q n' d (readyA al e' ms') al h0 h1 h2 h3 h4 h5 v0 v1 v2 W hal hx hn'
    rw [hpv] at hNx
    have HDn : Hid (R = none → Steps al [h0, h1, h2, h3, h4, h5] [v0, v1, v2] e ms L e' (readyA al e' ms')) := fun h => by
      have := HT9.out _ _ _ (Steps.done (HR.out.trans h))
      rw [List.append_nil] at this
      exact this
    have HEn : Hid (∀ x e2 ms2, R = some (x, e2, ms2) → chk e2 ms2 = true ∧ muA al ms2 < muA al ms' ∧ ((x.k = 1 ∧ cutR (fun y => y.n == x.n) e' (readyA al e' ms') = .ok (e2, ms2)) ∨ (x.k = 2 ∧ joinR e' (readyA al e' ms') ⟨x.n, x.s, false⟩ = .ok (e2, ms2))) ∧ ∀ l e3 ms3, Steps al [h0, h1, h2, h3, h4, h5] [v0, v1, v2] e2 ms2 l e3 ms3 → Steps al [h0, h1, h2, h3, h4, h5] [v0, v1, v2] e ms ((L ++ [x]) ++ l) e3 ms3) := fun x e2 ms2 h => by
      obtain ⟨c1, _, c3⟩ := next_less (readyA_chk hk) (readyA_lively hk) (HR.out.trans h)
      have hmA : muA al (readyA al e' ms') = muA al ms' := by rw [readyA_map hk]; unfold muA; rw [deadC_map, liveC_map]
      refine ⟨c1, by omega, nextR_cases (HR.out.trans h), fun l e3 ms3 hst => ?_⟩
      rw [List.append_assoc]
      exact HT9.out _ _ _ (Steps.step (HR.out.trans h) hst)
    have hqw : ∀ r, (Value.slice qv L.length cv).ownBlock = some r → r < wr.heap.size := fun r hr => (hOC.own hr).2
    clear hpv hp HR HT9
    have hCk := rCheck_any e' q' n' c' ms' wr hr hn'
    unfold chkV at hCk
    rw [hk] at hCk
    simp only [if_true] at hCk
    obtain ⟨x0, x1⟩ := hX.two
    obtain ⟨wq, hwq⟩ : ∃ x, x = wr := ⟨_, rfl⟩
    rw [← hwq] at hCk hX hH hV hZ hA hr hb x0 x1 hOC hqw ⊢
    clear hwq
    go_wp2_with fail
    refine hCk.mono ?_
    rintro r w5 ⟨rfl, hb5⟩
    have hba := below_alloc w5 (.cells #[.int .i64 e', .slice none 0 0] 28)
    have hO0 := Ob.new w5 e'
    have hB5 := hb.trans (hb5.mono (by have := hb.size; omega))
    have hB6 := hB5.trans (hba.mono (by have := hB5.size; omega))
    have hX6 := (hX.below hb5).below hba
    have hH6 := (hH.below hb5).below hba
    have hV6 := (hV.below hb5).below hba
    have hZ6 := (hZ.below hb5).below hba
    have hA6 := (hA.below hb5).below hba
    have hr6 := (hr.below hb5).below hba
    have hwX : wq.heap.size ≤ w5.heap.size := hb5.size
    have hqX : ∀ a, q' = some a → 0 < n' → a.block < w5.heap.size := (hr.below hb5).blk
    have hGX : G < w5.heap.size := (hA.below hb5).lt
    have hb3X : b + 3 < w5.heap.size := (hZ.below hb5).lt
    have hbX : b < w5.heap.size := by omega
    have hb1X : b + 1 < w5.heap.size := by omega
    have hb2X : b + 2 < w5.heap.size := by omega
    have hOC6 := (hOC.below hb5).below hba
    clear hOC
    obtain ⟨x0, x1⟩ := (hX.below hb5).two
    obtain ⟨x2, x3⟩ := hX6.two
    clear hCk hX hH hV hZ hA hr hb hb5 hba hB5
    go_wp2_with fail
    have hwX6 : w5.heap.size < (w5.alloc (.cells #[.int .i64 e', .slice none 0 0] 28)).heap.size := by simp
    generalize (w5.alloc (.cells #[.int .i64 e', .slice none 0 0] 28)) = w6 at *
    clear x0 x1
    obtain ⟨S, HS⟩ : ∃ z, Hid (ms'.map (fl al) = z) := ⟨_, rfl⟩
    have HSA : Hid (readyA al e' ms' = S) := (readyA_map hk).trans HS.out
    have HSl : Hid (S.length = n') := fl_len HS.out hr6.len
    have HT0 : Hid (∀ k2, k2 < n' → S.take (k2 + 1) = S.take k2 ++ [fl al (ms'.getD k2 .z0)]) := fun k2 h2 => fl_take HS.out (by rw [hr6.len]; exact h2)
    have Hgm : Hid (∀ m ∈ ms', isMb m = true) := ((chk_iff e' ms').1 hk).2.2.2.1
    generalize w5.heap.size = X at *
    clear HS
    go_loopw [32] (fun jv wr => ∃ (k2 : Nat) (v2 : Value), k2 ≤ n' ∧ jv = .int .i64 k2 ∧ Ob wr X e' v2 (S.take k2) ∧ Below X w6 wr) (fun jv _ => n' - (intOf jv).toNat)
    case atStart => exact ⟨0, .slice none 0 0, Nat.zero_le _, rfl, by rw [List.take_zero]; exact hO0, Below.refl _ _⟩
    case round =>
      clear hO0
      obtain ⟨k2, v2, hk2n, rfl, hO, hb2⟩ := hrel
      have hrX := hr6.low hb2 hqX
      by_cases hk2 : k2 < n'
      · have hk2l : k2 < ms'.length := by rw [hr6.len]; exact hk2
        obtain ⟨g1, o1, hpe, cc1⟩ := hrX.cells (by omega)
        subst hpe
        obtain ⟨p1, p2, p3⟩ := cc1 k2 hk2
        have hmb := (isMb_iff _).1 (Hgm.out _ (getD_mb hk2l))
        have HT := HT0.out k2 hk2
        have hML : (S.take k2).length ≤ n' := by rw [List.length_take]; omega
        clear cc1 hrX HT0
        generalize ms'.getD k2 .z0 = m at *
        generalize S.take k2 = M2 at *
        obtain ⟨fn, fs, ff⟩ := m
        dsimp only at p1 p2 p3 hmb
        obtain ⟨hm0, hm5, _, _⟩ := hmb
        obtain ⟨j, rfl⟩ := Int.eq_ofNat_of_zero_le hm0
        have hj64 : j < 64 := by omega
        have y0 := (hA6.low hb2 hGX).cell (i := j) (by rw [hbl]; exact hj64)
        rw [hget j hj64] at y0
        have hhas : hasN al (j : Int) = al.testBit j := by unfold hasN; rw [decide_eq_true (by omega), Int.toNat_natCast]; rfl
        unfold fl at HT
        dsimp only at HT
        rw [hhas] at HT
        clear hget hhas
        cases ff with
        | false =>
          have HT2 : Hid (S.take (k2 + 1) = M2 ++ [⟨(j : Int), fs, false⟩]) := by unfold Hid; rw [HT]; rfl
          clear HT
          have hba : Below wr.heap.size wr ((wr.alloc (.cells #[.int .i64 (j : Int), .int .i64 fs, .bool false] 45)).alloc (.cells #[.int .i64 (j : Int), .int .i64 fs, .bool false] 45)) := ((Below.refl _ _).alloc (Nat.le_refl _) _).alloc (by simp) _
          have hO2 := hO.below hba
          have u1 := hO.c1
          have u2 : (wr.alloc (.cells #[.int .i64 (j : Int), .int .i64 fs, .bool false] 45)).cell? ⟨X, 1, none⟩ = some v2 := (((Below.refl wr.heap.size wr).alloc (Nat.le_refl _) (.cells #[.int .i64 (j : Int), .int .i64 fs, .bool false] 45)).cell (p := ⟨X, 1, none⟩) hO.lt).trans u1
          have hsz : X + 1 ≤ ((wr.alloc (.cells #[.int .i64 (j : Int), .int .i64 fs, .bool false] 45)).alloc (.cells #[.int .i64 (j : Int), .int .i64 fs, .bool false] 45)).heap.size := by have := hO.lt; simp; omega
          clear y0
          clear hNx hk hB6 hX6 hH6 hV6 hZ6 hA6 hr6 HSA HSl Hgm hbl hOne hInf hzy hal hqX x2 x3 hwX hwX6 hm0
          go_wp2_with (at_builtin; refine wpList_appOwM _ rfl (.tmp 47) (.tmp 49) 26 rfl i0 (.agg #[.int .i64 0, .int .i64 0, .bool false]) Tryd.underlying26 hi0 hz0 hz1 hz2 rfl (X + 1) v2 M2 rfl hO2.ow (wr.heap.size + 1) 1 ⟨(j : Int), fs, false⟩ rfl (by simp) (by simp) (by simp) (by omega) hsz ?_)
          intro v' w' h1 h2
          obtain ⟨q9, c9, rfl, _, _⟩ := h1.rd
          simp only [List.length_append, List.length_singleton] at h1
          have s1 := (h2.cell (p := ⟨X, 1, none⟩) (Nat.lt_succ_self _)).trans hO2.c1
          have s2 := (h2.frozen (p := ⟨X, 1, none⟩) (Nat.lt_succ_self _)).trans hO2.fz
          go_wp2_with fail
          go_roundw
          case rel => exact ⟨k2 + 1, _, by omega, by go_num, by rw [HT2.out]; exact hO2.app h2 h1, ((hb2.trans (hba.mono (by have := hb2.size; have := hO.lt; omega))).trans (h2.mono (Nat.le_succ _))).setCell (Nat.le_refl _) _⟩
          case measure => simp [intOf]; omega
        | true =>
          cases hbit : al.testBit j with
          | true =>
            rw [hbit] at y0 HT
            have y1 := (((Below.refl wr.heap.size wr).alloc (Nat.le_refl _) (.cells #[.int .i64 (j : Int), .int .i64 fs, .bool true] 45)).cell (p := ⟨G, j, none⟩) (World.block_lt_of_cell? _ _ y0)).trans y0
            clear hbit
            have HT2 : Hid (S.take (k2 + 1) = M2 ++ [⟨(j : Int), fs, false⟩]) := by unfold Hid; rw [HT]; rfl
            clear HT
            have hba : Below wr.heap.size wr ((wr.alloc (.cells #[.int .i64 (j : Int), .int .i64 fs, .bool false] 45)).alloc (.cells #[.int .i64 (j : Int), .int .i64 fs, .bool false] 45)) := ((Below.refl _ _).alloc (Nat.le_refl _) _).alloc (by simp) _
            have hO2 := hO.below hba
            have u1 := hO.c1
            have u2 : (wr.alloc (.cells #[.int .i64 (j : Int), .int .i64 fs, .bool false] 45)).cell? ⟨X, 1, none⟩ = some v2 := (((Below.refl wr.heap.size wr).alloc (Nat.le_refl _) (.cells #[.int .i64 (j : Int), .int .i64 fs, .bool false] 45)).cell (p := ⟨X, 1, none⟩) hO.lt).trans u1
            have hsz : X + 1 ≤ ((wr.alloc (.cells #[.int .i64 (j : Int), .int .i64 fs, .bool false] 45)).alloc (.cells #[.int .i64 (j : Int), .int .i64 fs, .bool false] 45)).heap.size := by have := hO.lt; simp; omega
            clear hNx hk hB6 hX6 hH6 hV6 hZ6 hA6 hr6 HSA HSl Hgm hbl hOne hInf hzy hal hqX x2 x3 hwX hwX6 hm0
            go_wp2_with (at_builtin; refine wpList_appOwM _ rfl (.tmp 47) (.tmp 49) 26 rfl i0 (.agg #[.int .i64 0, .int .i64 0, .bool false]) Tryd.underlying26 hi0 hz0 hz1 hz2 rfl (X + 1) v2 M2 rfl hO2.ow (wr.heap.size + 1) 1 ⟨(j : Int), fs, false⟩ rfl (by simp) (by simp) (by simp) (by omega) hsz ?_)
            intro v' w' h1 h2
            obtain ⟨q9, c9, rfl, _, _⟩ := h1.rd
            simp only [List.length_append, List.length_singleton] at h1
            have s1 := (h2.cell (p := ⟨X, 1, none⟩) (Nat.lt_succ_self _)).trans hO2.c1
            have s2 := (h2.frozen (p := ⟨X, 1, none⟩) (Nat.lt_succ_self _)).trans hO2.fz
            go_wp2_with fail
            go_roundw
            case rel => exact ⟨k2 + 1, _, by omega, by go_num, by rw [HT2.out]; exact hO2.app h2 h1, ((hb2.trans (hba.mono (by have := hb2.size; have := hO.lt; omega))).trans (h2.mono (Nat.le_succ _))).setCell (Nat.le_refl _) _⟩
            case measure => simp [intOf]; omega
          | false =>
            rw [hbit] at y0 HT
            have y1 := (((Below.refl wr.heap.size wr).alloc (Nat.le_refl _) (.cells #[.int .i64 (j : Int), .int .i64 fs, .bool true] 45)).cell (p := ⟨G, j, none⟩) (World.block_lt_of_cell? _ _ y0)).trans y0
            clear hbit
            have HT2 : Hid (S.take (k2 + 1) = M2 ++ [⟨(j : Int), fs, true⟩]) := by unfold Hid; rw [HT]; rfl
            clear HT
            have hba : Below wr.heap.size wr ((wr.alloc (.cells #[.int .i64 (j : Int), .int .i64 fs, .bool true] 45)).alloc (.cells #[.int .i64 (j : Int), .int .i64 fs, .bool true] 45)) := ((Below.refl _ _).alloc (Nat.le_refl _) _).alloc (by simp) _
            have hO2 := hO.below hba
            have u1 := hO.c1
            have u2 : (wr.alloc (.cells #[.int .i64 (j : Int), .int .i64 fs, .bool true] 45)).cell? ⟨X, 1, none⟩ = some v2 := (((Below.refl wr.heap.size wr).alloc (Nat.le_refl _) (.cells #[.int .i64 (j : Int), .int .i64 fs, .bool true] 45)).cell (p := ⟨X, 1, none⟩) hO.lt).trans u1
            have hsz : X + 1 ≤ ((wr.alloc (.cells #[.int .i64 (j : Int), .int .i64 fs, .bool true] 45)).alloc (.cells #[.int .i64 (j : Int), .int .i64 fs, .bool true] 45)).heap.size := by have := hO.lt; simp; omega
            clear hNx hk hB6 hX6 hH6 hV6 hZ6 hA6 hr6 HSA HSl Hgm hbl hOne hInf hzy hal hqX x2 x3 hwX hwX6 hm0
            go_wp2_with (at_builtin; refine wpList_appOwM _ rfl (.tmp 47) (.tmp 49) 26 rfl i0 (.agg #[.int .i64 0, .int .i64 0, .bool false]) Tryd.underlying26 hi0 hz0 hz1 hz2 rfl (X + 1) v2 M2 rfl hO2.ow (wr.heap.size + 1) 1 ⟨(j : Int), fs, true⟩ rfl (by simp) (by simp) (by simp) (by omega) hsz ?_)
            intro v' w' h1 h2
            obtain ⟨q9, c9, rfl, _, _⟩ := h1.rd
            simp only [List.length_append, List.length_singleton] at h1
            have s1 := (h2.cell (p := ⟨X, 1, none⟩) (Nat.lt_succ_self _)).trans hO2.c1
            have s2 := (h2.frozen (p := ⟨X, 1, none⟩) (Nat.lt_succ_self _)).trans hO2.fz
            go_wp2_with fail
            go_roundw
            case rel => exact ⟨k2 + 1, _, by omega, by go_num, by rw [HT2.out]; exact hO2.app h2 h1, ((hb2.trans (hba.mono (by have := hb2.size; have := hO.lt; omega))).trans (h2.mono (Nat.le_succ _))).setCell (Nat.le_refl _) _⟩
            case measure => simp [intOf]; omega
      · have hOS : Ob wr X e' v2 S := by rw [List.take_of_length_le (by rw [HSl.out]; omega)] at hO; exact hO
        obtain ⟨q7, c7, rfl, hq7, hr7'⟩ := hOS.ow.rd
        rw [HSl.out] at hr7' hOS
        have hr7 := hr7'.put (.int .i64 e') (.slice q7 n' c7) (fun a ha _ => by have := hq7 a ha; omega : ∀ a, q7 = some a → 0 < n' → a.block ≠ b)
        have hX7 := (hX6.low hb2 hbX).put2 (.int .i64 e') (.slice q7 n' c7)
        have hH7 := (hH6.low hb2 hb1X).other2 b (by omega) (.int .i64 e') (.slice q7 n' c7)
        have hV7 := (hV6.low hb2 hb2X).other2 b (by omega) (.int .i64 e') (.slice q7 n' c7)
        have hZ7 := (hZ6.low hb2 hb3X).other2 b (by omega) (.int .i64 e') (.slice q7 n' c7)
        have hA7 := ((hA6.low hb2 hGX).other b 0 (.int .i64 e') (by omega)).other b 1 (.slice q7 n' c7) (by omega)
        have hB7 := Below.put2 (hB6.trans (hb2.mono (by omega))) (Nat.le_refl b) (.int .i64 e') (.slice q7 n' c7)
        obtain ⟨x0, x1⟩ := (hX6.low hb2 hbX).two
        obtain ⟨f0, f1, f2, f3⟩ := (hX6.low hb2 hbX).free4
        obtain ⟨o0, o1, of, _⟩ := hOS
        rw [HSA.out] at hNx HDn HEn
        have hqX2 : ∀ r, (Value.slice qv L.length cv).ownBlock = some r → r < X := fun r hr => Nat.lt_of_lt_of_le (hqw r hr) hwX
        have hOC7 := ((hOC6.low hb2 hqX2).set (u := .int .i64 e') (by omega : b < G + 1) 0).set (u := .slice q7 n' c7) (by omega : b < G + 1) 1
        obtain ⟨m0, m1, m2, m3, m4, m5⟩ := (hH6.low hb2 hb1X).six
        obtain ⟨n0, n1, n2⟩ := (hV6.low hb2 hb2X).three
        have hNx7 := hNx q7 c7 _ hr7
        have hq7X : ∀ a, q7 = some a → X + 1 ≤ a.block := hq7
        have HSn : Hid (S.length = n') := HSl
        have hXW : X < ((wr.setCell ⟨b, 0, none⟩ (.int .i64 e')).setCell ⟨b, 1, none⟩ (.slice q7 n' c7)).heap.size := by have := hO.lt; simpa using this
        clear hNx hX6 hH6 hV6 hZ6 hA6 hr6 hB6 hrX hOC6 HSA HSl HT0 Hgm hk hO hr7'
        go_wp2_with fail
        generalize ((wr.setCell ⟨b, 0, none⟩ (.int .i64 e')).setCell ⟨b, 1, none⟩ (.slice q7 n' c7)) = w7 at *
        refine hNx7.mono ?_
        rintro r w8 ⟨rfl, hb8⟩
        have hX8 := hX7.below hb8
        have hH8 := hH7.below hb8
        have hV8 := hV7.below hb8
        have hZ8 := hZ7.below hb8
        have hA8 := hA7.below hb8
        have hr8 := hr7.below hb8
        have hO8 := hOC7.below hb8
        have hB8 := hB7.trans (hb8.mono (by have := hB7.size; omega))
        have hw78 := hb8.size
        clear hNx7 hX7 hH7 hV7 hZ7 hA7 hr7 hB7 hOC7 hb8 x0 x1 x2 x3 m0 m1 m2 m3 m4 m5 n0 n1 n2 o0 o1 of f0 f1 f2 f3 hb2 hget hbl hOne hInf hzy
        cases R with
        | none =>
          have HD2 : Hid (Steps al [h0, h1, h2, h3, h4, h5] [v0, v1, v2] e ms L e' S) := HDn.out rfl
          unfold okV
          have hba := below_alloc w8 (.cells #[.int .i64 0, .int .i64 0, .int .i64 0, .int .i64 0] 37)
          have hB9 := hB8.trans (hba.mono (by have := hB8.size; omega))
          have hZ9 := hZ8.below hba
          have hr9 := hr8.below hba
          have hO9 := hO8.below hba
          obtain ⟨x0, x1⟩ := (hX8.below hba).two
          obtain ⟨d0, d1⟩ := hZ9.two
          obtain ⟨g0, g1, g2, g3⟩ := hZ9.free4
          clear hX8 hH8 hV8 hZ8 hA8 hr8 hO8 hB8 hba HDn HEn
          go_wp2_with fail
          go_region
          all_goals go_wp2_with fail
          obtain ⟨q9, c9, e9, hRC⟩ := hO9.rd
          cases e9
          have hqc : ∀ a, qv = some a → a.block ≠ b + 3 := fun a ha => by have := (hO9.own (r := a.block) (by rw [ha]; rfl)).1; omega
          have hqb : ∀ a, q7 = some a → 0 < n' → a.block ≠ b + 3 := fun a ha _ => by have := hq7X a ha; omega
          have hRC2 := ((hRC.set1c (b + 3) 0 (.int .i64 e') hqc).set1c (b + 3) 1 (.slice q7 n' c7) hqc)
          exact bodyPost_ret (results_all (u := 8) (p := 9) (t := 10) rfl _ _ (b + 3) _ _ rfl ((hZ9.put2 _ _).drew)) rfl ⟨L, e', S, _, _, q7, c7, by rw [HSn.out]; rfl, HD2.out, hRC2.drew, by rw [HSn.out]; exact (hr9.put _ _ hqb).drew, Below.drewR (Below.put2 hB9 (by omega) _ _)⟩
        | some y =>
          obtain ⟨⟨xk, xn, xs, xe⟩, e2, ms2⟩ := y
          obtain ⟨hk2', hm2, hcs, HT2'⟩ := HEn.out _ _ _ rfl
          have HT2 : Hid (∀ l e3 ms3, Steps al [h0, h1, h2, h3, h4, h5] [v0, v1, v2] e2 ms2 l e3 ms3 → Steps al [h0, h1, h2, h3, h4, h5] [v0, v1, v2] e ms ((L ++ [⟨xk, xn, xs, xe⟩]) ++ l) e3 ms3) := HT2'
          have HKn : Hid (k + 1 + muA al ms2 ≤ muA al ms) := by have := HKm.out; unfold Hid; omega
          have HLn : Hid ((L ++ [(⟨xk, xn, xs, xe⟩ : Cm)]).length = k + 1) := by unfold Hid; rw [List.length_append, HLk.out]; rfl
          have Hk2 : Hid (chk e2 ms2 = true) := hk2'
          have Hcs : Hid ((xk = 1 ∧ cutR (fun y => y.n == xn) e' S = .ok (e2, ms2)) ∨ (xk = 2 ∧ joinR e' S ⟨xn, xs, false⟩ = .ok (e2, ms2))) := hcs
          unfold okV
          dsimp only
          have hba := below_alloc w8 (.cells #[.int .i64 xk, .int .i64 xn, .int .i64 xs, .int .i64 xe] 37)
          have hbb := below_alloc (w8.alloc (.cells #[.int .i64 xk, .int .i64 xn, .int .i64 xs, .int .i64 xe] 37)) (.cells #[.int .i64 xk, .int .i64 xn, .int .i64 xs, .int .i64 xe] 37)
          have hP := (At.new 37 w8 #[.int .i64 xk, .int .i64 xn, .int .i64 xs, .int .i64 xe]).below hbb
          have hQ : At 37 _ (w8.heap.size + 1) _ := At.moved (by simp) (At.new 37 (w8.alloc (.cells #[.int .i64 xk, .int .i64 xn, .int .i64 xs, .int .i64 xe] 37)) #[.int .i64 xk, .int .i64 xn, .int .i64 xs, .int .i64 xe])
          have hX9 := (hX8.below hba).below hbb
          have hH9 := (hH8.below hba).below hbb
          have hV9 := (hV8.below hba).below hbb
          have hZ9 := (hZ8.below hba).below hbb
          have hA9 := (hA8.below hba).below hbb
          have hr9 := (hr8.below hba).below hbb
          have hO9 := (hO8.below hba).below hbb
          have hB9' := hB8.trans (hba.mono (by have := hB8.size; omega))
          have hB9 := hB9'.trans (hbb.mono (by have := hB9'.size; omega))
          have hs9 : ((w8.alloc (.cells #[.int .i64 xk, .int .i64 xn, .int .i64 xs, .int .i64 xe] 37)).alloc (.cells #[.int .i64 xk, .int .i64 xn, .int .i64 xs, .int .i64 xe] 37)).heap.size = w8.heap.size + 2 := by simp
          obtain ⟨q0, q1, q2, q3⟩ := hQ.four
          have hGB : G + 1 ≤ ((w8.alloc (.cells #[.int .i64 xk, .int .i64 xn, .int .i64 xs, .int .i64 xe] 37)).alloc (.cells #[.int .i64 xk, .int .i64 xn, .int .i64 xs, .int .i64 xe] 37)).heap.size := by rw [hs9]; omega
          have hLm : L.length ≤ 1000 := by omega
          clear hX8 hH8 hV8 hZ8 hA8 hr8 hO8 hB8 hba hbb hB9' HDn HEn HT2' hcs hk2' HLk HKm hm2 hQ hk12 hL12
          go_wp2_with (at_builtin; refine wpList_appC _ rfl (.tmp 69) (.tmp 71) 46 rfl j0 (.agg #[.int .i64 0, .int .i64 0, .int .i64 0, .int .i64 0]) Tryd.underlying46 hj0 hy0 hy1 hy2 rfl (G + 1) (.slice qv L.length cv) L rfl hO9 (w8.heap.size + 1) 1 ⟨xk, xn, xs, xe⟩ rfl q0 q1 q2 q3 hLm hGB ?_)
          intro v' w' hO10 hg10
          have ow : ∀ r, some r = (Value.slice qv L.length cv).ownBlock → G + 1 ≤ r ∧ r < X := fun r h => ⟨(hO9.own h.symm).1, hqX2 r h.symm⟩
          have hX10 := hX9.grown hg10 (fun h => by have := ow _ h; omega)
          have hH10 := hH9.grown hg10 (fun h => by have := ow _ h; omega)
          have hV10 := hV9.grown hg10 (fun h => by have := ow _ h; omega)
          have hZ10 := hZ9.grown hg10 (fun h => by have := ow _ h; omega)
          have hA10 := hA9.grown hg10 (fun h => by have := ow _ h; omega)
          have hP10 := hP.grown hg10 (fun h => by have := ow _ h; omega)
          have hr10 := hr9.grown hg10 (fun a ha _ h => by have := ow _ h; have := hq7X a ha; omega)
          have hB10 := Below.grew hB9 hg10 (by have := hB9.size; omega) (fun r h => by have := ow r h.symm; omega)
          have hw10 : b + 3 < w'.heap.size := by have := hg10.size; omega
          obtain ⟨x0, x1⟩ := hX10.two
          obtain ⟨p0, p1, p2, p3⟩ := hP10.four
          obtain ⟨q9, c9, rfl⟩ := hO10.shape
          clear hX9 hH9 hV9 hZ9 hA9 hr9 hO9 hB9 hP hg10 ow q0 q1 q2 q3 hs9 hGB hq7X
          rcases Hcs.out with ⟨rfl, hcu⟩ | ⟨rfl, hju⟩
          · have hCu := rCut_any e' q7 n' c7 S xn (-1) w' hr10 hn'
            rw [cut_doc, hcu] at hCu
            clear hcu Hcs
            go_wp2_with fail
            refine hCu.mono ?_
            rintro r w11 ⟨v11, rfl, ht11, hb11⟩
            obtain ⟨q11, c11, rfl, hq11, hr11⟩ := ht11
            have hX11 := hX10.below hb11
            have hB11 := hB10.trans (hb11.mono (by have := hB10.size; omega))
            obtain ⟨x0, x1⟩ := hX11.two
            obtain ⟨f0, f1, f2, f3⟩ := hX11.free4
            have hqb : ∀ a, q11 = some a → 0 < ms2.length → a.block ≠ b := fun a ha h0 => by have := hq11 a ha h0; omega
            clear hCu
            go_wp2_with fail
            go_roundw
            case rel => exact ⟨k + 1, L ++ [(⟨1, xn, xs, xe⟩ : Cm)], e2, q11, ms2.length, c11, ms2, by go_num, by
              have h9 := (((hO10.below hb11).set (u := .int .i64 e2) (by omega : b < G + 1) 0).set (u := .slice q11 ms2.length c11) (by omega : b < G + 1) 1)
              rw [List.length_append] at h9
              exact h9, Hk2.out, HLn, HKn, HT2, hr11.put _ _ hqb, ((hA10.below hb11).other b 0 _ (by omega)).other b 1 _ (by omega), hX11.put2 _ _, (hH10.below hb11).other2 b (by omega) _ _, (hV10.below hb11).other2 b (by omega) _ _, (hZ10.below hb11).other2 b (by omega) _ _, Below.put2 hB11 (Nat.le_refl b) _ _⟩
            case measure => simp [intOf]; omega
          · have hCu := rJoin_any e' q7 n' c7 S ⟨xn, xs, false⟩ w' hr10 hn'
            rw [hju] at hCu
            dsimp only at hCu
            clear hju Hcs
            go_wp2_with fail
            refine hCu.mono ?_
            rintro r w11 ⟨v11, rfl, ht11, hb11⟩
            obtain ⟨q11, c11, rfl, hq11, hr11⟩ := ht11
            have hX11 := hX10.below hb11
            have hB11 := hB10.trans (hb11.mono (by have := hB10.size; omega))
            obtain ⟨x0, x1⟩ := hX11.two
            obtain ⟨f0, f1, f2, f3⟩ := hX11.free4
            have hqb : ∀ a, q11 = some a → 0 < ms2.length → a.block ≠ b := fun a ha h0 => by have := hq11 a ha h0; omega
            clear hCu
            go_wp2_with fail
            go_roundw
            case rel => exact ⟨k + 1, L ++ [(⟨2, xn, xs, xe⟩ : Cm)], e2, q11, ms2.length, c11, ms2, by go_num, by
              have h9 := (((hO10.below hb11).set (u := .int .i64 e2) (by omega : b < G + 1) 0).set (u := .slice q11 ms2.length c11) (by omega : b < G + 1) 1)
              rw [List.length_append] at h9
              exact h9, Hk2.out, HLn, HKn, HT2, hr11.put _ _ hqb, ((hA10.below hb11).other b 0 _ (by omega)).other b 1 _ (by omega), hX11.put2 _ _, (hH10.below hb11).other2 b (by omega) _ _, (hV10.below hb11).other2 b (by omega) _ _, (hZ10.below hb11).other2 b (by omega) _ _, Below.put2 hB11 (Nat.le_refl b) _ _⟩
            case measure => simp [intOf]; omega

end Go.Proofs.YtigojnpjpagfjaaDoor.M

namespace Go.Proofs.YtigojnpjpagfjaaDoor.M
open Go.ChangeShapes Go.WideShapes Go.ChangeAt Go.RowKit

theorem Steps.there {al : Nat} {hs vs : List Int} : ∀ (N : Nat) {e : Int} {ms : List Mb}, chk e ms = true → muA al ms < N → ∃ l e2 ms2, Steps al hs vs e ms l e2 ms2
  | 0, _, _, _, h => absurd h (Nat.not_lt_zero _)
  | N + 1, e, ms, hc, h => by
    have hmA : muA al (readyA al e ms) = muA al ms := by rw [readyA_map hc]; unfold muA; rw [deadC_map, liveC_map]
    cases hn : nextR al hs vs e (readyA al e ms) with
    | none => exact ⟨_, _, _, Steps.done hn⟩
    | some y =>
      obtain ⟨x, e2, ms2⟩ := y
      obtain ⟨c1, _, c3⟩ := next_less (readyA_chk hc) (readyA_lively hc) hn
      obtain ⟨l, e3, ms3, hst⟩ := Steps.there (al := al) (hs := hs) (vs := vs) N c1 (by omega)
      exact ⟨_, _, _, Steps.step hn hst⟩

theorem Steps.less {al : Nat} {hs vs : List Int} {l : List Cm} : ∀ {e : Int} {ms : List Mb} {e2 : Int} {ms2 : List Mb}, Steps al hs vs e ms l e2 ms2 → chk e ms = true → l.length ≤ muA al ms ∧ chk e2 ms2 = true := by
  induction l with
  | nil =>
    intro e ms e2 ms2 h hc
    have a := Steps.out0 h
    clear h
    rw [a.2.1, a.2.2]
    exact ⟨Nat.zero_le _, readyA_chk hc⟩
  | cons x l ih =>
    intro e ms e2 ms2 h hc
    have ⟨_, _, h1, t⟩ := Steps.out1 h
    clear h
    have hmA : muA al (readyA al e ms) = muA al ms := by rw [readyA_map hc]; unfold muA; rw [deadC_map, liveC_map]
    have ⟨c1, _, c3⟩ := next_less (readyA_chk hc) (readyA_lively hc) h1
    have ⟨k1, k2⟩ := ih t c1
    clear h1 t
    exact ⟨by rw [List.length_cons]; omega, k2⟩

theorem Steps.small {al : Nat} {hs vs : List Int} {e : Int} {ms : List Mb} {l : List Cm} {e2 : Int} {ms2 : List Mb} (h : Steps al hs vs e ms l e2 ms2) (hc : chk e ms = true) : l.length ≤ 12 ∧ ms2.length ≤ 6 := by
  obtain ⟨k1, k2⟩ := h.less hc
  have h1 := dead_live al ms
  have h2 := (chk_parts hc).2.2.2
  refine ⟨?_, (chk_parts k2).2.2.2⟩
  unfold muA at k1
  omega

/-- What the program's All tells, and the document's, is the same. -/
theorem all_both (e : Int) (n : Nat) (ms : List Mb) (al : Nat) (h0 h1 h2 h3 h4 h5 v0 v1 v2 : Int) (hv : (v0 ≤ 9223372036854775807 ∧ v1 ≤ 9223372036854775807) ∧ v2 ≤ 9223372036854775807) (hal : al < 18446744073709551616) (hn : n ≤ 5864062014805) :
    ∃ (L : List Cm) (ln : Nat) (e2 : Int) (ms2 : List Mb) (mn : Nat) (E : Int), ln ≤ 12 ∧ mn ≤ 6 ∧
      (∀ p c w, RdM w p n c ms → Tab w → Calls Tryd.prog 17 #[.agg #[.int .i64 e, .slice p n c], .int .u64 (al : Int), .agg #[.int .i64 h0, .int .i64 h1, .int .i64 h2, .int .i64 h3, .int .i64 h4, .int .i64 h5], .agg #[.int .i64 v0, .int .i64 v1, .int .i64 v2]] w fun r w' => ∃ q1 c1 q2 c2, r = .returned (.tuple #[.slice q1 ln c1, .agg #[.int .i64 e2, .slice q2 mn c2], .int .i64 E]) ∧ RdC w' q1 ln c1 L ∧ RdM w' q2 mn c2 ms2 ∧ Below w.heap.size w w') ∧
      (∀ p c w, RdM w p n c ms → Calls Tryd.prog 18 #[.agg #[.int .i64 e, .slice p n c], .int .u64 (al : Int), .agg #[.int .i64 h0, .int .i64 h1, .int .i64 h2, .int .i64 h3, .int .i64 h4, .int .i64 h5], .agg #[.int .i64 v0, .int .i64 v1, .int .i64 v2]] w fun r w' => ∃ q1 c1 q2 c2, r = .returned (.tuple #[.slice q1 ln c1, .agg #[.int .i64 e2, .slice q2 mn c2], .int .i64 E]) ∧ RdC w' q1 ln c1 L ∧ RdM w' q2 mn c2 ms2 ∧ Below w.heap.size w w') := by
  have hC0 : ∀ w, RdC w none 0 0 [] := fun w => ⟨rfl, Nat.le_refl _, fun _ => rfl, fun h => absurd h (Nat.lt_irrefl _)⟩
  have hM0 : ∀ w, RdM w none 0 0 [] := fun w => ⟨rfl, Nat.le_refl _, fun _ => rfl, fun h => absurd h (Nat.lt_irrefl _)⟩
  cases hk : chk e ms with
  | false =>
    refine ⟨[], 0, 0, [], 0, 80, by decide, by decide, fun p c w hr _ => ?_, fun p c w hr => ?_⟩
    · exact (All_no e p n c ms al h0 h1 h2 h3 h4 h5 v0 v1 v2 w hr hn hk).mono fun r w' ⟨h1, h2⟩ => ⟨none, 0, none, 0, h1, hC0 _, hM0 _, h2⟩
    · exact (rAll_no e p n c ms al h0 h1 h2 h3 h4 h5 v0 v1 v2 w hal hr hn hk).mono fun r w' ⟨h1, h2⟩ => ⟨none, 0, none, 0, h1, hC0 _, hM0 _, h2⟩
  | true =>
  cases hpc : planC [h0, h1, h2, h3, h4, h5] [v0, v1, v2] with
  | false =>
    refine ⟨[], 0, 0, [], 0, 1, by decide, by decide, fun p c w hr _ => ?_, fun p c w hr => ?_⟩
    · exact (All_bad e p n c ms al h0 h1 h2 h3 h4 h5 v0 v1 v2 w hr hn hk hpc).mono fun r w' ⟨h1, h2⟩ => ⟨none, 0, none, 0, h1, hC0 _, hM0 _, h2⟩
    · exact (rAll_bad e p n c ms al h0 h1 h2 h3 h4 h5 v0 v1 v2 w hal hr hn hk hpc).mono fun r w' ⟨h1, h2⟩ => ⟨none, 0, none, 0, h1, hC0 _, hM0 _, h2⟩
  | true =>
    obtain ⟨L, e2, ms2, hst⟩ := Steps.there (hs := [h0, h1, h2, h3, h4, h5]) (vs := [v0, v1, v2]) (muA al ms + 1) hk (Nat.lt_succ_self _)
    obtain ⟨hl, hm⟩ := hst.small hk
    refine ⟨L, L.length, e2, ms2, ms2.length, 0, hl, hm, fun p c w hr ht => ?_, fun p c w hr => ?_⟩
    · refine (All_ok e p n c ms al h0 h1 h2 h3 h4 h5 v0 v1 v2 hv w hal hr hn ht hk hpc).mono ?_
      rintro r w' ⟨L', e2', ms2', q1, c1, q2, c2, h1, h2, _, _, h5, h6, _, h8⟩
      obtain ⟨rfl, rfl, rfl⟩ := h2.det hst
      exact ⟨q1, c1, q2, c2, h1, h5, h6, h8⟩
    · refine (rAll_ok e p n c ms al h0 h1 h2 h3 h4 h5 v0 v1 v2 w hal hr hn hk hpc).mono ?_
      rintro r w' ⟨L', e2', ms2', q1, c1, q2, c2, h1, h2, h5, h6, h8⟩
      obtain ⟨rfl, rfl, rfl⟩ := h2.det hst
      exact ⟨q1, c1, q2, c2, h1, h5, h6, h8⟩

set_option linter.unusedSimpArgs false in
set_option maxRecDepth 20000 in
set_option maxHeartbeats 8000000 in
theorem walk_PlanAll (w : World) (ht : Tab w) (e : Int) (p : Option Addr) (n c : Nat) (ms : List Mb) (hr : RdM w p n c ms) (al : Nat) (hal : al < 18446744073709551616) (h0 h1 h2 h3 h4 h5 v0 v1 v2 : Int) (hv : (v0 ≤ 9223372036854775807 ∧ v1 ≤ 9223372036854775807) ∧ v2 ≤ 9223372036854775807) :
    Calls Tryd.prog 5 #[.agg #[.int .i64 e, .slice p n c], .int .u64 (al : Int), .agg #[.int .i64 h0, .int .i64 h1, .int .i64 h2, .int .i64 h3, .int .i64 h4, .int .i64 h5], .agg #[.int .i64 v0, .int .i64 v1, .int .i64 v2]] w fun r w' => r = .returned (.bool true) ∧ Below w.heap.size w w' := by
  have hb0 : Below w.heap.size w (((w.alloc (.cells #[.int .i64 e, .slice p n c] 28)).alloc (.cells #[.int .i64 h0, .int .i64 h1, .int .i64 h2, .int .i64 h3, .int .i64 h4, .int .i64 h5] 23)).alloc (.cells #[.int .i64 v0, .int .i64 v1, .int .i64 v2] 25)) := (((Below.refl _ _).alloc (Nat.le_refl _) _).alloc (by simp) _).alloc (by simp; omega) _
  have hX : At 28 (((w.alloc (.cells #[.int .i64 e, .slice p n c] 28)).alloc (.cells #[.int .i64 h0, .int .i64 h1, .int .i64 h2, .int .i64 h3, .int .i64 h4, .int .i64 h5] 23)).alloc (.cells #[.int .i64 v0, .int .i64 v1, .int .i64 v2] 25)) w.heap.size #[.int .i64 e, .slice p n c] := ((At.new 28 w _).alloc _).alloc _
  have hH : At 23 (((w.alloc (.cells #[.int .i64 e, .slice p n c] 28)).alloc (.cells #[.int .i64 h0, .int .i64 h1, .int .i64 h2, .int .i64 h3, .int .i64 h4, .int .i64 h5] 23)).alloc (.cells #[.int .i64 v0, .int .i64 v1, .int .i64 v2] 25)) (w.heap.size + 1) #[.int .i64 h0, .int .i64 h1, .int .i64 h2, .int .i64 h3, .int .i64 h4, .int .i64 h5] := At.moved (by simp) ((At.new 23 _ _).alloc _)
  have hV : At 25 (((w.alloc (.cells #[.int .i64 e, .slice p n c] 28)).alloc (.cells #[.int .i64 h0, .int .i64 h1, .int .i64 h2, .int .i64 h3, .int .i64 h4, .int .i64 h5] 23)).alloc (.cells #[.int .i64 v0, .int .i64 v1, .int .i64 v2] 25)) (w.heap.size + 2) #[.int .i64 v0, .int .i64 v1, .int .i64 v2] := At.moved (by simp) (At.new 25 _ _)
  have hr0 := hr.below hb0
  have ht0 := ht.below hb0
  have hA := fun W hx => awake_any W hx
  generalize hw : w.heap.size = b at *
  obtain ⟨x0, x1⟩ := hX.two
  obtain ⟨m0, m1, m2, m3, m4, m5⟩ := hH.six
  obtain ⟨n0, n1, n2⟩ := hV.three
  by_cases hn60 : 60 < n
  · have hni : (60 : Int) < (n : Int) := by omega
    clear hr hr0
    go_enter Tryd.func5, Tryd.ntmps5
    go_wp2_with fail
    refine (hA _ ht0).mono ?_
    rintro r w1 ⟨rfl, hb1⟩
    go_wp2_with fail
    go_ret
    exact ⟨rfl, hb0.trans (hb1.mono (by have := hb0.size; omega))⟩
  have hni : ¬ (60 : Int) < (n : Int) := by omega
  have hn : n ≤ 5864062014805 := by omega
  have HL : Hid (ms.length = n) := hr.len
  obtain ⟨L, ln, e2, ms2, mn, E, hln, hmn, g1, g2⟩ := all_both e n ms al h0 h1 h2 h3 h4 h5 v0 v1 v2 hv hal hn
  clear hr
  go_enter Tryd.func5, Tryd.ntmps5
  go_wp2_with fail
  generalize (((w.alloc (.cells #[.int .i64 e, .slice p n c] 28)).alloc (.cells #[.int .i64 h0, .int .i64 h1, .int .i64 h2, .int .i64 h3, .int .i64 h4, .int .i64 h5] 23)).alloc (.cells #[.int .i64 v0, .int .i64 v1, .int .i64 v2] 25)) = w0 at *
  have hS0 : Bl w0 w0.drew := (Below.refl _ _).drew
  refine wp_region_det [0, 1, 2, 3, 5] (Bl w0) (Bl w0) (by kernel_rfl) hS0 ?_
  refine wpDet_take ?vA0 (Bl.stays w0) (fun _ h => h) (i := 0) rfl (by kernel_rfl) (by kernel_rfl) (by kernel_rfl) (by kernel_rfl) (fun _ _ _ h => h) (Gives.value (by rfl) ?yA0) ?rA0
  case yA0 => (intro w' hSw; have za0 := cell_bel0 hSw x0; have za1 := cell_bel0 hSw x1; go_simp; try with_reducible rfl)
  (try simp only [Act.put, List.getElem_toArray, List.getElem_cons_zero, List.getElem_cons_succ, List.setIfInBounds_toArray, List.set_cons_zero, List.set_cons_succ])
  refine wpDet_take ?vA1 (Bl.stays w0) (fun _ h => h) (i := 1) rfl (by kernel_rfl) (by kernel_rfl) (by kernel_rfl) (by kernel_rfl) (fun _ _ _ h => h) (Gives.value (by rfl) ?yA1) ?rA1
  case yA1 => (intro w' hSw; have za0 := cell_bel0 hSw x0; have za1 := cell_bel0 hSw x1; go_simp; try with_reducible rfl)
  (try simp only [Act.put, List.getElem_toArray, List.getElem_cons_zero, List.getElem_cons_succ, List.setIfInBounds_toArray, List.set_cons_zero, List.set_cons_succ])
  refine wpDet_take ?vA2 (Bl.stays w0) (fun _ h => h) (i := 2) rfl (by kernel_rfl) (by kernel_rfl) (by kernel_rfl) (by kernel_rfl) (fun _ _ _ h => h) (Gives.value (by rfl) ?yA2) ?rA2
  case yA2 => (intro w' hSw; have za0 := cell_bel0 hSw x0; have za1 := cell_bel0 hSw x1; go_simp; try with_reducible rfl)
  (try simp only [Act.put, List.getElem_toArray, List.getElem_cons_zero, List.getElem_cons_succ, List.setIfInBounds_toArray, List.set_cons_zero, List.set_cons_succ])
  refine wpDet_take ?vA3 (Bl.stays w0) (fun _ h => h) (i := 3) rfl (by kernel_rfl) (by kernel_rfl) (by kernel_rfl) (by kernel_rfl) (fun _ _ _ h => h) (Gives.value (by rfl) ?yA3) ?rA3
  case yA3 => (intro w' hSw; have za0 := cell_bel0 hSw x0; have za1 := cell_bel0 hSw x1; go_simp; try with_reducible rfl)
  (try simp only [Act.put, List.getElem_toArray, List.getElem_cons_zero, List.getElem_cons_succ, List.setIfInBounds_toArray, List.set_cons_zero, List.set_cons_succ])
  refine wpDet_ready (rs := [4, 6]) (by kernel_rfl) (by simp) (AllDet.cons rfl (fun V hV1 K hK => ?_) (AllDet.cons rfl (fun V hV1 K hK => ?_) AllDet.nil))
  · rw [if_pos (by rfl)]
    have hCv := cloneM_any p n c ms V (hr0.below hV1) hn
    refine wp_enterE 16 #[.slice p n c] (by first | (go_simp; done) | (go_simp; rfl)) (fun v W => Copy W V.heap.size n ms v ∧ Below V.heap.size V W) (hCv.mono fun e' w' hh => by obtain ⟨v, h1, h2, h3⟩ := hh; exact ⟨v, h1, h2, h3⟩) ?_
    rintro v7 V7 ⟨hcp, hb7⟩
    obtain ⟨q, d, rfl, hq, hrq⟩ := hcp.tell HL.out
    refine hK.out (Br w0 q n d ms) _ _ (Br.stays w0 _ _ _ _) (fun _ _ h => h.1) ⟨Bl.stays w0 V V7 hV1 hb7, hrq⟩ ?_
    clear hK K hCv hcp hb7 hV1 hrq hq
    (try simp only [Act.put, List.getElem_toArray, List.getElem_cons_zero, List.getElem_cons_succ, List.setIfInBounds_toArray, List.set_cons_zero, List.set_cons_succ])
    refine wpDet_take ?vB5 (Br.stays w0 _ _ _ _) (fun _ h => h.1) (i := 5) rfl (by kernel_rfl) (by kernel_rfl) (by kernel_rfl) (by kernel_rfl) (fun _ _ _ h => h) (Gives.value (by rfl) ?yB5) ?rB5
    case yB5 => (intro w' hSw; go_simp; try with_reducible rfl)
    (try simp only [Act.put, List.getElem_toArray, List.getElem_cons_zero, List.getElem_cons_succ, List.setIfInBounds_toArray, List.set_cons_zero, List.set_cons_succ])
    refine wpDet_ready (rs := [6]) (by kernel_rfl) (by simp) (AllDet.cons rfl (fun V hV K hK => ?_) AllDet.nil)
    rw [if_pos (by rfl)]
    refine wp_value (.pointer (some ⟨V.heap.size, 0, none⟩)) (V.alloc (.cells #[.int .i64 0, .slice none 0 0] 28)) (by first | (go_simp; done) | (go_simp; rfl)) ?_
    have hqx : ∀ a, q = some a → 0 < n → a.block ≠ V.heap.size := fun a ha h0 => by
      obtain ⟨g, o, e1, hc⟩ := hV.2.cells h0
      rw [ha] at e1
      cases e1
      exact Nat.ne_of_lt (World.block_lt_of_cell? _ _ (hc 0 h0).1)
    have hxl : w0.heap.size ≤ V.heap.size := (Bl.out0 hV.1).size
    refine hK.out (fun W => Br w0 q n d ms W ∧ Bx0 w0 V.heap.size W) _ _ ((Br.stays w0 _ _ _ _).and (Bx0.stays w0 _)) (fun _ _ h => h.1.1) ⟨Br.stays w0 _ _ _ _ V _ hV ((Below.refl _ _).alloc (Nat.le_refl _) _), Bl.stays w0 V _ hV.1 ((Below.refl _ _).alloc (Nat.le_refl _) _), heap_alloc_new _ _⟩ ?_
    clear hK K hV
    generalize V.heap.size = x at *
    (try simp only [Act.put, List.getElem_toArray, List.getElem_cons_zero, List.getElem_cons_succ, List.setIfInBounds_toArray, List.set_cons_zero, List.set_cons_succ])
    refine wpDet_ready (rs := [7]) (by kernel_rfl) (by simp) (AllDet.cons rfl (fun V hV K hK => ?_) AllDet.nil)
    rw [if_pos (by rfl)]
    have hAt : At 28 V x #[.int .i64 0, .slice none 0 0] := hV.2.2
    have hth : V.there x 0 2 := there2 hAt
    refine wp_store_mid 28 _ _ rfl x 0 #[.int .i64 e, .slice q n d] rfl rfl hth sizeC (one2 _ _ _ _) ?_
    have hz : Bw w0 x e q n d ms ((V.setCell ⟨x, 0, none⟩ (.int .i64 e)).setCell ⟨x, 1, none⟩ (.slice q n d)) := ⟨Gr.putB (Bl.out0 hV.1.1) hxl _ _, hV.1.2.put _ _ (fun a ha h0 => hqx a ha h0), hAt.put2 _ _⟩
    refine hK.out (Bw w0 x e q n d ms) _ _ (Bw.stays _ _ _ _ _ _ _) (no_lean (by kernel_rfl)) hz ?_
    clear hK K hV hth hz hAt
    (try simp only [Act.put, List.getElem_toArray, List.getElem_cons_zero, List.getElem_cons_succ, List.setIfInBounds_toArray, List.set_cons_zero, List.set_cons_succ])
    refine wpDet_done (by kernel_rfl) (fun W3 hV9 => ?_) _
    obtain ⟨hb3, rq, hK3⟩ := hV9
    have hX3 := hX.below hb3
    have hH3 := hH.below hb3
    have hV3 := hV.below hb3
    have hr3 := hr0.below hb3
    have ht3 := ht0.below hb3
    have hB3 := hb0.trans (hb3.mono (by have := hb0.size; omega))
    have hG1 := g1 q d _ rq ht3
    obtain ⟨z0, z1⟩ := hK3.two
    obtain ⟨m0, m1, m2, m3, m4, m5⟩ := hH3.six
    obtain ⟨n0, n1, n2⟩ := hV3.three
    clear g1 hb0 hX hH hV hr0 ht0 hb3 ht3
    go_wp2_with fail
    refine hG1.mono ?_
    rintro r w4 ⟨q1, c1, q2, c2, rfl, hC1, hR1, hb4⟩
    have hba := below_alloc w4 (.cells #[.int .i64 e2, .slice q2 mn c2] 28)
    have hX5 := (hX3.below hb4).below hba
    have hr5 := (hr3.below hb4).below hba
    have hK5 := (hK3.below hb4).below hba
    have rq5 := (rq.below hb4).below hba
    have hC5 := hC1.below hba
    have hR5 := hR1.below hba
    have hD5 := At.new 28 w4 #[.int .i64 e2, .slice q2 mn c2]
    have hB4 := hB3.trans (hb4.mono (by have := hB3.size; omega))
    have hB5 := hB4.trans (hba.mono (by have := hB4.size; omega))
    obtain ⟨x0, x1⟩ := hX5.two
    obtain ⟨m0, m1, m2, m3, m4, m5⟩ := ((hH3.below hb4).below hba).six
    obtain ⟨n0, n1, n2⟩ := ((hV3.below hb4).below hba).three
    have hG2 := g2 p c _ hr5
    clear g2 hG1 hX3 hH3 hV3 hr3 hB3 hK3 rq hb4 hC1 hR1 hB4 hba z0 z1
    go_wp2_with fail
    generalize (w4.alloc (.cells #[.int .i64 e2, .slice q2 mn c2] 28)) = w5 at *
    generalize w4.heap.size = y1 at *
    refine hG2.mono ?_
    rintro r w6 ⟨q3, c3, q4, c4, rfl, hC6, hR6, hb6⟩
    have hba := below_alloc w6 (.cells #[.int .i64 e2, .slice q4 mn c4] 28)
    have hX7 := (hX5.below hb6).below hba
    have hr7 := (hr5.below hb6).below hba
    have hK7 := (hK5.below hb6).below hba
    have rq7 := (rq5.below hb6).below hba
    have hC7 := (hC5.below hb6).below hba
    have hR7 := (hR5.below hb6).below hba
    have hD7 := (hD5.below hb6).below hba
    have hC8 := hC6.below hba
    have hR8 := hR6.below hba
    have hE8 := At.new 28 w6 #[.int .i64 e2, .slice q4 mn c4]
    have hB6 := hB5.trans (hb6.mono (by have := hB5.size; omega))
    have hB7 := hB6.trans (hba.mono (by have := hB6.size; omega))
    have ht7 := ht.below (by rw [hw]; exact hB7)
    have hEq := equalC_any q1 q3 ln ln c1 c3 L L _ hC7 hC8 (by omega) (by omega)
    rw [eqCs_self] at hEq
    clear hG2 hX5 hr5 hK5 rq5 hC5 hR5 hD5 hC6 hR6 hB5 hB6 hb6 hba hC7 hC8 x0 x1 m0 m1 m2 m3 m4 m5 n0 n1 n2
    go_wp2_with fail
    generalize (w6.alloc (.cells #[.int .i64 e2, .slice q4 mn c4] 28)) = w7 at *
    generalize w6.heap.size = y2 at *
    refine hEq.mono ?_
    rintro r w8 ⟨rfl, hb8⟩
    have hB8 := hB7.trans (hb8.mono (by have := hB7.size; omega))
    have hSm := rSame_any e2 e2 q2 q4 mn mn c2 c4 ms2 ms2 w8 (hR7.below hb8) (hR8.below hb8) (by omega) (by omega)
    rw [eqMs_self, beq_self_eq_true] at hSm
    obtain ⟨x0, x1⟩ := (hD7.below hb8).two
    obtain ⟨z0, z1⟩ := (hE8.below hb8).two
    clear hEq hR7 hR8 hB7
    go_wp2_with fail
    refine hSm.mono ?_
    rintro r w9 ⟨rfl, hb9⟩
    have hB9 := hB8.trans (hb9.mono (by have := hB8.size; omega))
    have hSn := Same_any e e q p n n d c ms ms w9 ((rq7.below hb8).below hb9) ((hr7.below hb8).below hb9) hn hn
    rw [eqMs_self, beq_self_eq_true] at hSn
    obtain ⟨x2, x3⟩ := ((hK7.below hb8).below hb9).two
    obtain ⟨z2, z3⟩ := ((hX7.below hb8).below hb9).two
    clear hSm hB8 x0 x1 z0 z1
    go_wp2_with fail
    refine hSn.mono ?_
    rintro r w10 ⟨rfl, hb10⟩
    have hB10 := hB9.trans (hb10.mono (by have := hB9.size; omega))
    have ht10 := ((ht7.below hb8).below hb9).below hb10
    clear hSn hB9
    go_wp2_with fail
    refine (hA _ ht10).mono ?_
    rintro r w11 ⟨rfl, hb11⟩
    go_wp2_with fail
    go_ret
    exact ⟨rfl, hB10.trans (hb11.mono (by have := hB10.size; omega))⟩
  · rw [if_pos (by rfl)]
    refine wp_value (.pointer (some ⟨V.heap.size, 0, none⟩)) (V.alloc (.cells #[.int .i64 0, .slice none 0 0] 28)) (by first | (go_simp; done) | (go_simp; rfl)) ?_
    have hxl : w0.heap.size ≤ V.heap.size := (Bl.out0 hV1).size
    refine hK.out (Bx0 w0 V.heap.size) _ _ (Bx0.stays w0 _) (fun _ _ h => h.1) ⟨Bl.stays w0 V _ hV1 ((Below.refl _ _).alloc (Nat.le_refl _) _), heap_alloc_new _ _⟩ ?_
    clear hK K hV1
    generalize V.heap.size = x at *
    (try simp only [Act.put, List.getElem_toArray, List.getElem_cons_zero, List.getElem_cons_succ, List.setIfInBounds_toArray, List.set_cons_zero, List.set_cons_succ])
    refine wpDet_ready (rs := [4]) (by kernel_rfl) (by simp) (AllDet.cons rfl (fun V hV K hK => ?_) AllDet.nil)
    rw [if_pos (by rfl)]
    have hCv := cloneM_any p n c ms V (hr0.below hV.1) hn
    refine wp_enterE 16 #[.slice p n c] (by first | (go_simp; done) | (go_simp; rfl)) (fun v W => Copy W V.heap.size n ms v ∧ Below V.heap.size V W) (hCv.mono fun e' w' hh => by obtain ⟨v, h1, h2, h3⟩ := hh; exact ⟨v, h1, h2, h3⟩) ?_
    rintro v7 V7 ⟨hcp, hb7⟩
    obtain ⟨q, d, rfl, hq, hrq⟩ := hcp.tell HL.out
    have hqx : ∀ a, q = some a → 0 < n → a.block ≠ x := fun a ha h0 => Nat.ne_of_gt (Nat.lt_of_lt_of_le (Array.getElem?_eq_some_iff.1 hV.2).1 (hq a ha h0))
    refine hK.out (fun W => Br w0 q n d ms W ∧ Bx0 w0 x W) _ _ ((Br.stays w0 _ _ _ _).and (Bx0.stays w0 _)) (fun _ _ h => h.1.1) ⟨⟨Bl.stays w0 V V7 hV.1 hb7, hrq⟩, Bx0.stays w0 x V V7 hV hb7⟩ ?_
    clear hK K hCv hcp hb7 hV hrq hq
    (try simp only [Act.put, List.getElem_toArray, List.getElem_cons_zero, List.getElem_cons_succ, List.setIfInBounds_toArray, List.set_cons_zero, List.set_cons_succ])
    refine wpDet_take ?vC5 ((Br.stays w0 _ _ _ _).and (Bx0.stays w0 _)) (fun _ h => h.1.1) (i := 5) rfl (by kernel_rfl) (by kernel_rfl) (by kernel_rfl) (by kernel_rfl) (fun _ _ _ h => h) (Gives.value (by rfl) ?yC5) ?rC5
    case yC5 => (intro w' hSw; go_simp; try with_reducible rfl)
    (try simp only [Act.put, List.getElem_toArray, List.getElem_cons_zero, List.getElem_cons_succ, List.setIfInBounds_toArray, List.set_cons_zero, List.set_cons_succ])
    refine wpDet_ready (rs := [7]) (by kernel_rfl) (by simp) (AllDet.cons rfl (fun V hV K hK => ?_) AllDet.nil)
    rw [if_pos (by rfl)]
    have hAt : At 28 V x #[.int .i64 0, .slice none 0 0] := hV.2.2
    have hth : V.there x 0 2 := there2 hAt
    refine wp_store_mid 28 _ _ rfl x 0 #[.int .i64 e, .slice q n d] rfl rfl hth sizeC (one2 _ _ _ _) ?_
    have hz : Bw w0 x e q n d ms ((V.setCell ⟨x, 0, none⟩ (.int .i64 e)).setCell ⟨x, 1, none⟩ (.slice q n d)) := ⟨Gr.putB (Bl.out0 hV.1.1) hxl _ _, hV.1.2.put _ _ (fun a ha h0 => hqx a ha h0), hAt.put2 _ _⟩
    refine hK.out (Bw w0 x e q n d ms) _ _ (Bw.stays _ _ _ _ _ _ _) (no_lean (by kernel_rfl)) hz ?_
    clear hK K hV hth hz hAt
    (try simp only [Act.put, List.getElem_toArray, List.getElem_cons_zero, List.getElem_cons_succ, List.setIfInBounds_toArray, List.set_cons_zero, List.set_cons_succ])
    refine wpDet_done (by kernel_rfl) (fun W3 hV9 => ?_) _
    obtain ⟨hb3, rq, hK3⟩ := hV9
    have hX3 := hX.below hb3
    have hH3 := hH.below hb3
    have hV3 := hV.below hb3
    have hr3 := hr0.below hb3
    have ht3 := ht0.below hb3
    have hB3 := hb0.trans (hb3.mono (by have := hb0.size; omega))
    have hG1 := g1 q d _ rq ht3
    obtain ⟨z0, z1⟩ := hK3.two
    obtain ⟨m0, m1, m2, m3, m4, m5⟩ := hH3.six
    obtain ⟨n0, n1, n2⟩ := hV3.three
    clear g1 hb0 hX hH hV hr0 ht0 hb3 ht3
    go_wp2_with fail
    refine hG1.mono ?_
    rintro r w4 ⟨q1, c1, q2, c2, rfl, hC1, hR1, hb4⟩
    have hba := below_alloc w4 (.cells #[.int .i64 e2, .slice q2 mn c2] 28)
    have hX5 := (hX3.below hb4).below hba
    have hr5 := (hr3.below hb4).below hba
    have hK5 := (hK3.below hb4).below hba
    have rq5 := (rq.below hb4).below hba
    have hC5 := hC1.below hba
    have hR5 := hR1.below hba
    have hD5 := At.new 28 w4 #[.int .i64 e2, .slice q2 mn c2]
    have hB4 := hB3.trans (hb4.mono (by have := hB3.size; omega))
    have hB5 := hB4.trans (hba.mono (by have := hB4.size; omega))
    obtain ⟨x0, x1⟩ := hX5.two
    obtain ⟨m0, m1, m2, m3, m4, m5⟩ := ((hH3.below hb4).below hba).six
    obtain ⟨n0, n1, n2⟩ := ((hV3.below hb4).below hba).three
    have hG2 := g2 p c _ hr5
    clear g2 hG1 hX3 hH3 hV3 hr3 hB3 hK3 rq hb4 hC1 hR1 hB4 hba z0 z1
    go_wp2_with fail
    generalize (w4.alloc (.cells #[.int .i64 e2, .slice q2 mn c2] 28)) = w5 at *
    generalize w4.heap.size = y1 at *
    refine hG2.mono ?_
    rintro r w6 ⟨q3, c3, q4, c4, rfl, hC6, hR6, hb6⟩
    have hba := below_alloc w6 (.cells #[.int .i64 e2, .slice q4 mn c4] 28)
    have hX7 := (hX5.below hb6).below hba
    have hr7 := (hr5.below hb6).below hba
    have hK7 := (hK5.below hb6).below hba
    have rq7 := (rq5.below hb6).below hba
    have hC7 := (hC5.below hb6).below hba
    have hR7 := (hR5.below hb6).below hba
    have hD7 := (hD5.below hb6).below hba
    have hC8 := hC6.below hba
    have hR8 := hR6.below hba
    have hE8 := At.new 28 w6 #[.int .i64 e2, .slice q4 mn c4]
    have hB6 := hB5.trans (hb6.mono (by have := hB5.size; omega))
    have hB7 := hB6.trans (hba.mono (by have := hB6.size; omega))
    have ht7 := ht.below (by rw [hw]; exact hB7)
    have hEq := equalC_any q1 q3 ln ln c1 c3 L L _ hC7 hC8 (by omega) (by omega)
    rw [eqCs_self] at hEq
    clear hG2 hX5 hr5 hK5 rq5 hC5 hR5 hD5 hC6 hR6 hB5 hB6 hb6 hba hC7 hC8 x0 x1 m0 m1 m2 m3 m4 m5 n0 n1 n2
    go_wp2_with fail
    generalize (w6.alloc (.cells #[.int .i64 e2, .slice q4 mn c4] 28)) = w7 at *
    generalize w6.heap.size = y2 at *
    refine hEq.mono ?_
    rintro r w8 ⟨rfl, hb8⟩
    have hB8 := hB7.trans (hb8.mono (by have := hB7.size; omega))
    have hSm := rSame_any e2 e2 q2 q4 mn mn c2 c4 ms2 ms2 w8 (hR7.below hb8) (hR8.below hb8) (by omega) (by omega)
    rw [eqMs_self, beq_self_eq_true] at hSm
    obtain ⟨x0, x1⟩ := (hD7.below hb8).two
    obtain ⟨z0, z1⟩ := (hE8.below hb8).two
    clear hEq hR7 hR8 hB7
    go_wp2_with fail
    refine hSm.mono ?_
    rintro r w9 ⟨rfl, hb9⟩
    have hB9 := hB8.trans (hb9.mono (by have := hB8.size; omega))
    have hSn := Same_any e e q p n n d c ms ms w9 ((rq7.below hb8).below hb9) ((hr7.below hb8).below hb9) hn hn
    rw [eqMs_self, beq_self_eq_true] at hSn
    obtain ⟨x2, x3⟩ := ((hK7.below hb8).below hb9).two
    obtain ⟨z2, z3⟩ := ((hX7.below hb8).below hb9).two
    clear hSm hB8 x0 x1 z0 z1
    go_wp2_with fail
    refine hSn.mono ?_
    rintro r w10 ⟨rfl, hb10⟩
    have hB10 := hB9.trans (hb10.mono (by have := hB9.size; omega))
    have ht10 := ((ht7.below hb8).below hb9).below hb10
    clear hSn hB9
    go_wp2_with fail
    refine (hA _ ht10).mono ?_
    rintro r w11 ⟨rfl, hb11⟩
    go_wp2_with fail
    go_ret
    exact ⟨rfl, hB10.trans (hb11.mono (by have := hB10.size; omega))⟩

end Go.Proofs.YtigojnpjpagfjaaDoor.M
