/-
  Own text: the walk of the statement 'RouteLeast'.
-/
import Derived.Test.YtdjeafaaclhpkabDoorZBest
import Derived.Test.YtdjeafaaclhpkabDoorZAwake
import Derived.Test.YtdjeafaaclhpkabDoorYFirst2
namespace Go.Proofs.YtdjeafaaclhpkabDoor.M
open Go.ChangeShapes Go.WideShapes Go.ChangeAt Go.RowKit

theorem first_is (n : Nat) (ms : List Mb) (hl : ms.length = n) (hn : n ≤ 60) : ∃ R, FirstIs n ms R ∧ (R = .error 80 ∨ ∃ M, R = .ok (1, M) ∧ chk 1 M = true ∧ M.length = n) := by
  rcases Nat.eq_zero_or_pos n with h0 | h0
  · subst h0
    exact ⟨.error 80, fun p c w hr => First_none p c ms w hr, Or.inl rfl⟩
  by_cases h6 : 6 < n
  · exact ⟨.error 80, fun p c w hr => First_many p n c ms w hr (by omega) h6, Or.inl rfl⟩
  refine ⟨firstR ms, fun p c w hr => First_few p n c ms w hr (by omega) h0, ?_⟩
  unfold firstR
  split
  · exact Or.inl rfl
  · split
    · exact Or.inl rfl
    · next hk =>
      exact Or.inr ⟨_, rfl, by simpa using hk, by rw [outS_len]; exact hl⟩

set_option maxRecDepth 20000 in
set_option maxHeartbeats 2000000 in
theorem walk_RouteLeast (w : World) (hT : Tab18 w) (p : Option Addr) (n c : Nat) (ms : List Mb) (hr : RdM w p n c ms) (a0 a1 a2 a3 a4 a5 a6 a7 a8 st : Int) :
    Calls Tryd.prog 3 #[.slice p n c, .agg #[.int .i64 a0, .int .i64 a1, .int .i64 a2, .int .i64 a3, .int .i64 a4, .int .i64 a5, .int .i64 a6, .int .i64 a7, .int .i64 a8], .int .i64 st] w fun r w' => r = .returned (.bool true) ∧ Below w.heap.size w w' := by
  have hb0 : Below w.heap.size w (w.alloc (.cells #[.int .i64 a0, .int .i64 a1, .int .i64 a2, .int .i64 a3, .int .i64 a4, .int .i64 a5, .int .i64 a6, .int .i64 a7, .int .i64 a8] 25)) := (Below.refl _ _).alloc (Nat.le_refl _) _
  have hA : ArrI 25 .i64 (w.alloc (.cells #[.int .i64 a0, .int .i64 a1, .int .i64 a2, .int .i64 a3, .int .i64 a4, .int .i64 a5, .int .i64 a6, .int .i64 a7, .int .i64 a8] 25)) w.heap.size [a0, a1, a2, a3, a4, a5, a6, a7, a8] := nine_cells (t := 25) w a0 a1 a2 a3 a4 a5 a6 a7 a8
  have hW := fun W => awake_any W
  have hl := hr.len
  by_cases hnm : 60 < n
  · have hni : (60 : Int) < (n : Int) := by omega
    clear hr hA
    go_enter Tryd.func3, Tryd.ntmps3
    go_wp2_with fail
    refine (hW _).mono ?_
    rintro r w1 ⟨rfl, hb1⟩
    go_wp2_with fail
    go_ret
    exact ⟨rfl, hb0.trans (hb1.mono hb0.size)⟩
  have hni : ¬ (60 : Int) < (n : Int) := by omega
  have hr0 := hr.below hb0
  obtain ⟨R, HF, hR⟩ := first_is n ms hl (by omega)
  rcases hR with rfl | ⟨M, rfl, hk, hMl⟩
  · have g1 := Best_80 p n c ms a0 a1 a2 a3 a4 a5 a6 a7 a8 st _ hr0 HF
    clear hr HF
    go_enter Tryd.func3, Tryd.ntmps3
    go_wp2_with fail
    refine g1.mono ?_
    rintro r w1 ⟨rfl, hb1⟩
    have hbb := hb0.trans (hb1.mono hb0.size)
    clear g1 hb1 hb0
    go_wp2_with fail
    refine (hW _).mono ?_
    rintro r w2 ⟨rfl, hb2⟩
    go_wp2_with fail
    go_ret
    exact ⟨rfl, hbb.trans (hb2.mono hbb.size)⟩
  by_cases hok : ¬ (okW [a0, a1, a2, a3, a4, a5, a6, a7, a8] = true ∧ isSt st = true)
  · have g1 := Best_arg p n c ms a0 a1 a2 a3 a4 a5 a6 a7 a8 st _ hr0 1 M HF hok
    clear hr HF
    go_enter Tryd.func3, Tryd.ntmps3
    go_wp2_with fail
    refine g1.mono ?_
    rintro r w1 ⟨rfl, hb1⟩
    have hbb := hb0.trans (hb1.mono hb0.size)
    clear g1 hb1 hb0
    go_wp2_with fail
    refine (hW _).mono ?_
    rintro r w2 ⟨rfl, hb2⟩
    go_wp2_with fail
    go_ret
    exact ⟨rfl, hbb.trans (hb2.mono hbb.size)⟩
  have hok2 : okW [a0, a1, a2, a3, a4, a5, a6, a7, a8] = true ∧ isSt st = true := Decidable.not_not.1 hok
  obtain ⟨hw, hs⟩ := hok2
  unfold isSt at hs
  simp at hs
  obtain ⟨i0, rfl⟩ := Int.eq_ofNat_of_zero_le hs.1
  have hi0 : i0 < 3 := by omega
  have hin := okW_in (B9 := [a0, a1, a2, a3, a4, a5, a6, a7, a8]) rfl hw
  have h6 := chk_six hk
  have hpos := chk_pos hk
  have HMl : Hid (M.length = n) := hMl
  clear hMl
  have g1 := Best_ok p n c ms a0 a1 a2 a3 a4 a5 a6 a7 a8 i0 hi0 _ hr0 M HF hk hw (hT.below hb0)
  have HFi : Hid (FirstIs n ms (.ok (1, M))) := HF
  have HWr : Hid (∀ (q : Option Addr) (d : Nat) (W : World), RdM W q M.length d M → Calls Tryd.prog 7 #[.agg #[.int .i64 1, .slice q M.length d], .agg #[.int .i64 a0, .int .i64 a1, .int .i64 a2, .int .i64 a3, .int .i64 a4, .int .i64 a5, .int .i64 a6, .int .i64 a7, .int .i64 a8], .int .i64 (i0 : Int)] W fun r w' => r = .returned (.tuple #[.int .i64 (2 * thr [a0, a1, a2, a3, a4, a5, a6, a7, a8] i0 M), .int .i64 0]) ∧ Below W.heap.size W w') := fun q d W h => Write_ok 1 q M.length d M a0 a1 a2 a3 a4 a5 a6 a7 a8 i0 hi0 hk hw W h (by omega)
  have HCo : Hid (∀ (q : Option Addr) (d : Nat) (BL : List Mb) (W : World), (∀ m ∈ BL, m ∈ M) → RdM W q M.length d BL → Calls Tryd.prog 8 #[.slice q M.length d, .agg #[.int .i64 a0, .int .i64 a1, .int .i64 a2, .int .i64 a3, .int .i64 a4, .int .i64 a5, .int .i64 a6, .int .i64 a7, .int .i64 a8], .int .i64 (i0 : Int)] W fun r w' => r = .returned (.int .i64 (2 * thr [a0, a1, a2, a3, a4, a5, a6, a7, a8] i0 BL)) ∧ Below W.heap.size W w') := fun q d BL W h1 h2 => Cost_any a0 a1 a2 a3 a4 a5 a6 a7 a8 i0 hi0 q M.length d BL (fun m hm => chk_site hk (h1 m hm)) hin W h2 (by omega) (by omega)
  generalize [a0, a1, a2, a3, a4, a5, a6, a7, a8] = ws at g1 HWr HCo
  clear hr HF hk hw hs hok hin hT
  go_enter Tryd.func3, Tryd.ntmps3
  go_wp2_with fail
  refine g1.mono ?_
  rintro r w1 ⟨BL, q, d, rfl, hrB, hlB, hmB, htB, hb1⟩
  have hbb := hb0.trans (hb1.mono hb0.size)
  have g2 := HFi.out p c _ (hr0.below hb1)
  replace hA := hA.below hb1
  clear g1 hb1 hb0 hr0 HFi
  go_wp2_with fail
  refine g2.mono ?_
  rintro r w2 ⟨v, rfl, hTo, hb2⟩
  obtain ⟨q2, d2, hv, _, hrM⟩ := hTo
  subst hv
  have hbc := hbb.trans (hb2.mono hbb.size)
  have hba := below_alloc w2 (.cells #[.int .i64 1, .slice q2 M.length d2] 31)
  have hbd := hbc.trans (hba.mono hbc.size)
  replace hA := (hA.below hb2).below hba
  replace hrB := (hrB.below hb2).below hba
  replace hrM := hrM.below hba
  obtain ⟨c0, c1, c2, c3, c4, c5, c6, c7, c8⟩ := nine hA
  have g3 := HWr.out q2 d2 _ hrM
  clear g2 hb2 hbc hbb HWr
  go_wp2_with fail
  refine g3.mono ?_
  rintro r w3 ⟨rfl, hb3⟩
  have hbe := hbd.trans (hb3.mono hbd.size)
  replace hA := hA.below hb3
  replace hrB := hrB.below hb3
  clear g3 c0 c1 c2 c3 c4 c5 c6 c7 c8 hba hbd hb3
  obtain ⟨c0, c1, c2, c3, c4, c5, c6, c7, c8⟩ := nine hA
  have g4 := HCo.out q d BL w3 hmB hrB
  obtain ⟨A, HA⟩ : ∃ A, Hid (2 * thr ws i0 BL = A) := ⟨_, rfl⟩
  obtain ⟨C, HC⟩ : ∃ C, Hid (2 * thr ws i0 M = C) := ⟨_, rfl⟩
  rw [HA.out] at g4 ⊢
  rw [HC.out]
  have hle : decide (A ≤ C) = true := decide_eq_true (by have := HA.out; have := HC.out; omega)
  have hlm : ((M.length : Int) == (n : Int)) = true := by rw [HMl.out]; simp
  have hpm : decide ((0 : Int) < (M.length : Int)) = true := decide_eq_true (by omega)
  have hAA : (A == A) = true := by simp
  clear HA HC htB hmB hlB HCo
  clear HMl
  generalize M.length = ml at *
  go_wp2_with fail
  refine g4.mono ?_
  rintro r w4 ⟨rfl, hb4⟩
  have hbf := hbe.trans (hb4.mono hbe.size)
  clear g4 c0 c1 c2 c3 c4 c5 c6 c7 c8
  go_wp2_with fail
  refine (hW _).mono ?_
  rintro r w5 ⟨rfl, hb5⟩
  go_wp2_with fail
  go_ret
  exact ⟨rfl, hbf.trans (hb5.mono hbf.size)⟩

end Go.Proofs.YtdjeafaaclhpkabDoor.M
