/-
  Own text: the contract of route's Best, on the orders that the program's text lays.
-/
import Derived.Test.YtdjeafaaclhpkabDoorZBySites
import Derived.Test.YtdjeafaaclhpkabDoorZPub
namespace Go.Proofs.YtdjeafaaclhpkabDoor.M
open Go.ChangeShapes Go.WideShapes Go.ChangeAt Go.RowKit

/-- The orders lie in the first block. -/
def Tab18 (W : World) : Prop := ∀ i, i < 18 → W.cell? ⟨0, i, none⟩ = some (.int .i64 (ordL.getD i 0))

theorem Tab18.below {w w' : World} (h : Tab18 w) (hb : Below w.heap.size w w') : Tab18 w' := fun i hi => by
  rw [hb.cell (p := ⟨0, i, none⟩) (World.block_lt_of_cell? _ _ (h i hi))]
  exact h i hi

theorem Tab18.all {W : World} (h : Tab18 W) : W.cell? ⟨0, 0, none⟩ = some (.int .i64 0) ∧ W.cell? ⟨0, 1, none⟩ = some (.int .i64 1) ∧ W.cell? ⟨0, 2, none⟩ = some (.int .i64 2) ∧ W.cell? ⟨0, 3, none⟩ = some (.int .i64 0) ∧ W.cell? ⟨0, 4, none⟩ = some (.int .i64 2) ∧ W.cell? ⟨0, 5, none⟩ = some (.int .i64 1) ∧ W.cell? ⟨0, 6, none⟩ = some (.int .i64 1) ∧ W.cell? ⟨0, 7, none⟩ = some (.int .i64 0) ∧ W.cell? ⟨0, 8, none⟩ = some (.int .i64 2) ∧ W.cell? ⟨0, 9, none⟩ = some (.int .i64 1) ∧ W.cell? ⟨0, 10, none⟩ = some (.int .i64 2) ∧ W.cell? ⟨0, 11, none⟩ = some (.int .i64 0) ∧ W.cell? ⟨0, 12, none⟩ = some (.int .i64 2) ∧ W.cell? ⟨0, 13, none⟩ = some (.int .i64 0) ∧ W.cell? ⟨0, 14, none⟩ = some (.int .i64 1) ∧ W.cell? ⟨0, 15, none⟩ = some (.int .i64 2) ∧ W.cell? ⟨0, 16, none⟩ = some (.int .i64 1) ∧ W.cell? ⟨0, 17, none⟩ = some (.int .i64 0) :=
  ⟨h 0 (by decide), h 1 (by decide), h 2 (by decide), h 3 (by decide), h 4 (by decide), h 5 (by decide), h 6 (by decide), h 7 (by decide), h 8 (by decide), h 9 (by decide), h 10 (by decide), h 11 (by decide), h 12 (by decide), h 13 (by decide), h 14 (by decide), h 15 (by decide), h 16 (by decide), h 17 (by decide)⟩

theorem idx6 (k : Nat) (hk : k < 6) (w : World) : (Instr.index 50 (.agg #[.int .i64 0, .int .i64 1, .int .i64 2, .int .i64 0, .int .i64 2, .int .i64 1, .int .i64 1, .int .i64 0, .int .i64 2, .int .i64 1, .int .i64 2, .int .i64 0, .int .i64 2, .int .i64 0, .int .i64 1, .int .i64 2, .int .i64 1, .int .i64 0]) (.int .i64 (k : Int))).run Tryd.prog w = .ok (.agg #[.int .i64 (ordL.getD (k * 3) 0), .int .i64 (ordL.getD (k * 3 + 1) 0), .int .i64 (ordL.getD (k * 3 + 2) 0)]) w := by
  have hu := Tryd.underlying50
  have hi := Tryd.isAgg23
  have hz := Tryd.sizeOf23
  obtain rfl | rfl | rfl | rfl | rfl | rfl : k = 0 ∨ k = 1 ∨ k = 2 ∨ k = 3 ∨ k = 4 ∨ k = 5 := by omega
  all_goals simp [Instr.index, run_underlying hu, asIntOf, go_sem, part, hi, hz, ordL]

/-- What First answers, as a condition on memory: of any members. -/
def FirstIs (n : Nat) (ms : List Mb) (R : CR) : Prop := ∀ (p : Option Addr) (c : Nat) (w : World), RdM w p n c ms → Calls Tryd.prog 6 #[.slice p n c] w fun r w' => ∃ v, r = .returned v ∧ Told w.heap.size w' v R ∧ Below w.heap.size w w'

set_option maxRecDepth 20000 in
set_option maxHeartbeats 2000000 in
theorem Best_80 (p : Option Addr) (n c : Nat) (ms : List Mb) (a0 a1 a2 a3 a4 a5 a6 a7 a8 st : Int) (w : World) (hr : RdM w p n c ms) (hF : FirstIs n ms (.error 80)) :
    Calls Tryd.prog 5 #[.slice p n c, .agg #[.int .i64 a0, .int .i64 a1, .int .i64 a2, .int .i64 a3, .int .i64 a4, .int .i64 a5, .int .i64 a6, .int .i64 a7, .int .i64 a8], .int .i64 st] w fun r w' => r = .returned (.tuple #[.slice none 0 0, .int .i64 0, .int .i64 80]) ∧ Below w.heap.size w w' := by
  have hb0 : Below w.heap.size w (w.alloc (.cells #[.int .i64 a0, .int .i64 a1, .int .i64 a2, .int .i64 a3, .int .i64 a4, .int .i64 a5, .int .i64 a6, .int .i64 a7, .int .i64 a8] 25)) := (Below.refl _ _).alloc (Nat.le_refl _) _
  have g1 := hF p c _ (hr.below hb0)
  clear hr hF
  go_enter Tryd.func5, Tryd.ntmps5
  go_wp2_with fail
  refine g1.mono ?_
  rintro r w1 ⟨v, rfl, hT, hb1⟩
  have hv : v = .tuple #[.agg #[.int .i64 0, .slice none 0 0], .int .i64 80] := hT
  subst hv
  have hbb := hb0.trans (hb1.mono hb0.size)
  have hb2 := hbb.alloc hbb.size (.cells #[.int .i64 0, .slice none 0 0] 31)
  clear g1 hT hb1 hb0
  go_wp2_with fail
  go_ret3
  exact ⟨rfl, hb2⟩

set_option maxRecDepth 20000 in
set_option maxHeartbeats 2000000 in
theorem Best_arg (p : Option Addr) (n c : Nat) (ms : List Mb) (a0 a1 a2 a3 a4 a5 a6 a7 a8 st : Int) (w : World) (hr : RdM w p n c ms) (e : Int) (M : List Mb) (hF : FirstIs n ms (.ok (e, M))) (h1 : ¬ (okW [a0, a1, a2, a3, a4, a5, a6, a7, a8] = true ∧ isSt st = true)) :
    Calls Tryd.prog 5 #[.slice p n c, .agg #[.int .i64 a0, .int .i64 a1, .int .i64 a2, .int .i64 a3, .int .i64 a4, .int .i64 a5, .int .i64 a6, .int .i64 a7, .int .i64 a8], .int .i64 st] w fun r w' => r = .returned (.tuple #[.slice none 0 0, .int .i64 0, .int .i64 1]) ∧ Below w.heap.size w w' := by
  have hb0 : Below w.heap.size w (w.alloc (.cells #[.int .i64 a0, .int .i64 a1, .int .i64 a2, .int .i64 a3, .int .i64 a4, .int .i64 a5, .int .i64 a6, .int .i64 a7, .int .i64 a8] 25)) := (Below.refl _ _).alloc (Nat.le_refl _) _
  have hA : ArrI 25 .i64 (w.alloc (.cells #[.int .i64 a0, .int .i64 a1, .int .i64 a2, .int .i64 a3, .int .i64 a4, .int .i64 a5, .int .i64 a6, .int .i64 a7, .int .i64 a8] 25)) w.heap.size [a0, a1, a2, a3, a4, a5, a6, a7, a8] := nine_cells (t := 25) w a0 a1 a2 a3 a4 a5 a6 a7 a8
  have g1 := hF p c _ (hr.below hb0)
  have g2 := fun W => askerAt_no a0 a1 a2 a3 a4 a5 a6 a7 a8 st W h1
  clear hr hF h1
  go_enter Tryd.func5, Tryd.ntmps5
  go_wp2_with fail
  refine g1.mono ?_
  rintro r w1 ⟨v, rfl, hT, hb1⟩
  obtain ⟨q, d, hv, _, _⟩ := hT
  subst hv
  have hbb := hb0.trans (hb1.mono hb0.size)
  have hb2 := hbb.alloc hbb.size (.cells #[.int .i64 e, .slice q M.length d] 31)
  obtain ⟨c0, c1, c2, c3, c4, c5, c6, c7, c8⟩ := nine ((hA.below hb1).alloc (.cells #[.int .i64 e, .slice q M.length d] 31))
  clear g1 hb1 hb0 hA
  go_wp2_with fail
  refine (g2 _).mono ?_
  rintro r w2 ⟨rfl, hb3⟩
  have hbc := hb2.trans (hb3.mono hb2.size)
  have hb4 := hbc.alloc hbc.size (.cells #[.int .i64 0, .int .i64 0, .int .i64 0, .int .i64 0, .int .i64 0, .int .i64 0, .int .i64 0, .int .i64 0, .int .i64 0, .int .i64 0] 47)
  clear g2 hb3 hb2 hbb c0 c1 c2 c3 c4 c5 c6 c7 c8
  go_wp2_with fail
  go_ret3
  exact ⟨rfl, hb4⟩

/-- The best order up to now. -/
def BestI (xs : List Int) (i0 : Nat) (M : List Mb) (wr : World) (k : Nat) (v lv : Value) : Prop :=
  (k = 0 ∧ v = .slice none 0 0 ∧ lv = .int .i64 0) ∨ (0 < k ∧ ∃ (BL : List Mb) (q : Option Addr) (d : Nat), v = .slice q M.length d ∧ lv = .int .i64 (2 * thr xs i0 BL) ∧ RdM wr q M.length d BL ∧ BL.length = M.length ∧ (∀ m ∈ BL, m ∈ M) ∧ thr xs i0 BL ≤ thr xs i0 M)

set_option maxRecDepth 20000 in
set_option maxHeartbeats 2000000 in
theorem Best_ok (p : Option Addr) (n c : Nat) (ms : List Mb) (a0 a1 a2 a3 a4 a5 a6 a7 a8 : Int) (i0 : Nat) (hi0 : i0 < 3) (w : World) (hr : RdM w p n c ms) (M : List Mb) (hF : FirstIs n ms (.ok (1, M))) (hk : chk 1 M = true) (hw : okW [a0, a1, a2, a3, a4, a5, a6, a7, a8] = true) (hT0 : Tab18 w) :
    Calls Tryd.prog 5 #[.slice p n c, .agg #[.int .i64 a0, .int .i64 a1, .int .i64 a2, .int .i64 a3, .int .i64 a4, .int .i64 a5, .int .i64 a6, .int .i64 a7, .int .i64 a8], .int .i64 (i0 : Int)] w fun r w' => ∃ (BL : List Mb) (q : Option Addr) (d : Nat), r = .returned (.tuple #[.slice q M.length d, .int .i64 (2 * thr [a0, a1, a2, a3, a4, a5, a6, a7, a8] i0 BL), .int .i64 0]) ∧ RdM w' q M.length d BL ∧ BL.length = M.length ∧ (∀ m ∈ BL, m ∈ M) ∧ thr [a0, a1, a2, a3, a4, a5, a6, a7, a8] i0 BL ≤ thr [a0, a1, a2, a3, a4, a5, a6, a7, a8] i0 M ∧ Below w.heap.size w w' := by
  have hb0 : Below w.heap.size w (w.alloc (.cells #[.int .i64 a0, .int .i64 a1, .int .i64 a2, .int .i64 a3, .int .i64 a4, .int .i64 a5, .int .i64 a6, .int .i64 a7, .int .i64 a8] 25)) := (Below.refl _ _).alloc (Nat.le_refl _) _
  have hA : ArrI 25 .i64 (w.alloc (.cells #[.int .i64 a0, .int .i64 a1, .int .i64 a2, .int .i64 a3, .int .i64 a4, .int .i64 a5, .int .i64 a6, .int .i64 a7, .int .i64 a8] 25)) w.heap.size [a0, a1, a2, a3, a4, a5, a6, a7, a8] := nine_cells (t := 25) w a0 a1 a2 a3 a4 a5 a6 a7 a8
  have hS : isSt (i0 : Int) = true := by unfold isSt; simp; omega
  have g1 := hF p c _ (hr.below hb0)
  have g2 := fun W => askerAt_ok a0 a1 a2 a3 a4 a5 a6 a7 a8 (i0 : Int) W hw hS
  have h6 := chk_six hk
  have hgd := chk_good hk
  have HSi : Hid (∀ m ∈ M, 0 ≤ m.s ∧ m.s < 3) := fun m hm => by
    obtain ⟨j, hj, e⟩ := chk_site hk hm
    omega
  have HRow0 : Hid (bS M 0 1 2 = M) := bS_sorted M HSi.out hgd.2
  have hin := okW_in (B9 := [a0, a1, a2, a3, a4, a5, a6, a7, a8]) rfl hw
  have HTH : Hid (∀ (q : Option Addr) (k d : Nat) (bl : List Mb) (W : World), (∀ m ∈ bl, atSite m) → RdM W q k d bl → k ≤ 60 → Calls Tryd.prog 15 #[.agg #[.int .i64 a0, .int .i64 a1, .int .i64 a2, .int .i64 a3, .int .i64 a4, .int .i64 a5, .int .i64 a6, .int .i64 a7, .int .i64 a8, .int .i64 (i0 : Int)], .slice q k d] W fun r w' => r = .returned (.int .i64 (2 * thr [a0, a1, a2, a3, a4, a5, a6, a7, a8] i0 bl)) ∧ Below W.heap.size W w') := fun q k d bl W h1 h2 h3 => through_any a0 a1 a2 a3 a4 a5 a6 a7 a8 i0 hi0 q k d bl h1 hin W h2 h3
  have hTw := hT0.below hb0
  clear hr hF hk hw hS hin hgd hT0
  obtain ⟨ws, hws⟩ : ∃ ws, ws = [a0, a1, a2, a3, a4, a5, a6, a7, a8] := ⟨_, rfl⟩
  rw [← hws] at HTH ⊢
  go_enter Tryd.func5, Tryd.ntmps5
  go_wp2_with fail
  refine g1.mono ?_
  rintro r w1 ⟨v, rfl, hTo, hb1⟩
  obtain ⟨q, d, hv, _, hrM⟩ := hTo
  subst hv
  have hbb := hb0.trans (hb1.mono hb0.size)
  have hba1 := below_alloc w1 (.cells #[.int .i64 1, .slice q M.length d] 31)
  have hb2 := hbb.trans (hba1.mono hbb.size)
  obtain ⟨c0, c1, c2, c3, c4, c5, c6, c7, c8⟩ := nine ((hA.below hb1).below hba1)
  replace hrM := hrM.below hba1
  have hK : At 31 (w1.alloc (.cells #[.int .i64 1, .slice q M.length d] 31)) w1.heap.size #[.int .i64 1, .slice q M.length d] := At.new _ _ _
  replace hTw := (hTw.below hb1).below hba1
  clear g1 hb1 hb0 hA hbb hba1 hws
  go_wp2_with fail
  refine (g2 _).mono ?_
  rintro r w2 ⟨rfl, hb3⟩
  have hbc := hb2.trans (hb3.mono hb2.size)
  have hba2 := below_alloc w2 (.cells #[.int .i64 a0, .int .i64 a1, .int .i64 a2, .int .i64 a3, .int .i64 a4, .int .i64 a5, .int .i64 a6, .int .i64 a7, .int .i64 a8, .int .i64 (i0 : Int)] 47)
  have hb4 := hbc.trans (hba2.mono hbc.size)
  replace hrM := (hrM.below hb3).below hba2
  replace hK := (hK.below hb3).below hba2
  replace hTw := (hTw.below hb3).below hba2
  have hQ : ArrI 47 .i64 (w2.alloc (.cells #[.int .i64 a0, .int .i64 a1, .int .i64 a2, .int .i64 a3, .int .i64 a4, .int .i64 a5, .int .i64 a6, .int .i64 a7, .int .i64 a8, .int .i64 (i0 : Int)] 47)) w2.heap.size [a0, a1, a2, a3, a4, a5, a6, a7, a8, (i0 : Int)] := ArrI.new 47 .i64 w2 [a0, a1, a2, a3, a4, a5, a6, a7, a8, (i0 : Int)]
  obtain ⟨t0, t1, t2, t3, t4, t5, t6, t7, t8, t9, t10, t11, t12, t13, t14, t15, t16, t17⟩ := hTw.all
  clear g2 hb3 hb2 hbc hba2 c0 c1 c2 c3 c4 c5 c6 c7 c8
  go_wp2_with fail
  generalize (w2.alloc (.cells #[.int .i64 a0, .int .i64 a1, .int .i64 a2, .int .i64 a3, .int .i64 a4, .int .i64 a5, .int .i64 a6, .int .i64 a7, .int .i64 a8, .int .i64 (i0 : Int)] 47)) = w3 at *
  generalize w2.heap.size = gq at *
  generalize w1.heap.size = gk at *
  generalize hB : w3.heap.size = B at *
  clear t0 t1 t2 t3 t4 t5 t6 t7 t8 t9 t10 t11 t12 t13 t14 t15 t16 t17 hTw
  go_loopw [12, 13, 36] (fun v lv i wr => ∃ k : Nat, k ≤ 6 ∧ i = .int .i64 k ∧ BestI ws i0 M wr k v lv ∧ Below B w3 wr) (fun _ _ i _ => 6 - (intOf i).toNat)
  case atStart => exact ⟨0, by decide, rfl, Or.inl ⟨rfl, rfl, rfl⟩, Below.refl _ _⟩
  case round =>
    obtain ⟨k, hk6, rfl, hI, hb⟩ := hrel
    have hbW : Below w3.heap.size w3 wr := by rw [hB]; exact hb
    by_cases hkk : k < 6
    · have hki : (k : Int) < 6 := by omega
      have hix := fun W => idx6 k hkk W
      have hoo := ord_is k hkk
      obtain ⟨o0, HO0⟩ : ∃ o, Hid (ordL.getD (k * 3) 0 = o) := ⟨_, rfl⟩
      obtain ⟨o1, HO1⟩ : ∃ o, Hid (ordL.getD (k * 3 + 1) 0 = o) := ⟨_, rfl⟩
      obtain ⟨o2, HO2⟩ : ∃ o, Hid (ordL.getD (k * 3 + 2) 0 = o) := ⟨_, rfl⟩
      rw [HO0.out, HO1.out, HO2.out] at hix hoo
      have hlb := bS_len hoo M HSi.out
      have hba := below_alloc wr (.cells #[.int .i64 o0, .int .i64 o1, .int .i64 o2] 23)
      have hbx := hb.trans (hba.mono (by rw [← hB]; exact hbW.size))
      have hbX : Below w3.heap.size w3 (wr.alloc (.cells #[.int .i64 o0, .int .i64 o1, .int .i64 o2] 23)) := by rw [hB]; exact hbx
      obtain ⟨m0, m1⟩ := (hK.below hbX).two
      have hE : At 23 (wr.alloc (.cells #[.int .i64 o0, .int .i64 o1, .int .i64 o2] 23)) wr.heap.size #[.int .i64 o0, .int .i64 o1, .int .i64 o2] := At.new _ _ _
      obtain ⟨e0, e1, e2⟩ := hE.three
      have g3 := bySites_any q M.length d M o0 o1 o2 _ (hrM.below hbX) (by omega)
      rw [hlb] at g3
      go_wp2_with fail
      refine g3.mono ?_
      rintro r w5 ⟨q5, d5, rfl, hr5, hb5⟩
      have hsX : B ≤ (wr.alloc (.cells #[.int .i64 o0, .int .i64 o1, .int .i64 o2] 23)).heap.size := by rw [← hB]; exact hbX.size
      have hby := hbx.trans (hb5.mono hsX)
      have hbY : Below w3.heap.size w3 w5 := by rw [hB]; exact hby
      obtain ⟨c0, c1, c2, c3, c4, c5, c6, c7, c8, c9⟩ := ten (hQ.below hbY)
      have g4 := HTH.out q5 M.length d5 (bS M o0 o1 o2) w5 (fun m hm => HSi.out m (bS_mem hm)) hr5 (by omega)
      clear g3 m0 m1 e0 e1 e2 hix hE
      go_wp2_with fail
      refine g4.mono ?_
      rintro r w6 ⟨rfl, hb6⟩
      have hsY : B ≤ w5.heap.size := by rw [← hB]; exact hbY.size
      have hbz := hby.trans (hb6.mono hsY)
      have hr6 := hr5.below hb6
      clear g4 c0 c1 c2 c3 c4 c5 c6 c7 c8 c9
      rcases hI with ⟨rfl, rfl, rfl⟩ | ⟨hkp, BL, q7, d7, rfl, rfl, hr7, hl7, hm7, ht7⟩
      · have hR0 : bS M o0 o1 o2 = M := by
          have a0 : o0 = 0 := HO0.out.symm
          have a1 : o1 = 1 := HO1.out.symm
          have a2 : o2 = 2 := HO2.out.symm
          rw [a0, a1, a2]
          exact HRow0.out
        rw [hR0] at hr6 ⊢
        clear hR0 HO0 HO1 HO2 hoo hlb hr5
        go_wp2_with fail
        go_roundw
        case rel => exact ⟨1, by decide, rfl, Or.inr ⟨by decide, M, q5, d5, rfl, rfl, hr6, rfl, fun m hm => hm, Int.le_refl _⟩, hbz⟩
        case measure => simp [intOf]
      · have hk0 : ((k : Int) == 0) = false := by rw [beq_eq_false_iff_ne]; omega
        have hr8 := ((hr7.below hba).below hb5).below hb6
        have hmm : ∀ m ∈ bS M o0 o1 o2, m ∈ M := fun m hm => bS_mem hm
        generalize bS M o0 o1 o2 = RW at *
        obtain ⟨A, HA⟩ : ∃ A, Hid (2 * thr ws i0 RW = A) := ⟨_, rfl⟩
        obtain ⟨C, HC⟩ : ∃ C, Hid (2 * thr ws i0 BL = C) := ⟨_, rfl⟩
        rw [HA.out, HC.out]
        by_cases hlt : A < C
        · have hltd : decide (A < C) = true := decide_eq_true hlt
          clear HO0 HO1 HO2 hoo hr5 hr7
          have hle : thr ws i0 RW ≤ thr ws i0 M := by have := HA.out; have := HC.out; omega
          clear hlt ht7
          go_wp2_with fail
          go_roundw
          case rel => exact ⟨k + 1, by omega, by go_num, Or.inr ⟨by omega, RW, q5, d5, rfl, by rw [HA.out], hr6, hlb, hmm, hle⟩, hbz⟩
          case measure => simp [intOf]; omega
        · have hltd : decide (A < C) = false := decide_eq_false hlt
          clear HO0 HO1 HO2 hoo hr5 hr7 hlt
          go_wp2_with fail
          go_roundw
          case rel => exact ⟨k + 1, by omega, by go_num, Or.inr ⟨by omega, BL, q7, d7, rfl, by rw [HC.out], hr8, hl7, hm7, ht7⟩, hbz⟩
          case measure => simp [intOf]; omega
    · obtain rfl : k = 6 := by omega
      rcases hI with ⟨h0, _⟩ | ⟨_, BL, q7, d7, rfl, rfl, hr7, hl7, hm7, ht7⟩
      · cases h0
      · have hbz := hb4.trans (hb.mono (by rw [← hB]; exact hb4.size))
        go_wp2_with fail
        go_ret3
        exact ⟨BL, q7, d7, rfl, hr7, hl7, hm7, ht7, hbz⟩

end Go.Proofs.YtdjeafaaclhpkabDoor.M
