/-
  Own text: the example: two keys are seen, a pass is made and read, seven noughts are none.
-/
import Derived.Test.YtphdbpljgilcgaaDoorSRead
import Derived.Test.YtphdbpljgilcgaaDoorSEqL
import Derived.Test.YtphdbpljgilcgaaDoorSJoin
import Derived.Lib.SlBytesConst
import Derived.Laws.MakeOwn
namespace Go.Proofs.YtphdbpljgilcgaaDoor.M
open Go.ChangeShapes Go.WideShapes Go.ChangeAt Go.RowKit Go.Proofs
set_option linter.unusedSimpArgs false

theorem kA : okK 6989586621679009792 = true := by decide +kernel
theorem kB : okK 7061644215716937728 = true := by decide +kernel
theorem pA : padS ⟨#[97]⟩ = eigL 6989586621679009792 := by decide +kernel
theorem pB : padS ⟨#[98]⟩ = eigL 7061644215716937728 := by decide +kernel

theorem nameA (w : World) : Calls Tryd.prog 16 #[.string ⟨#[97]⟩] w fun e w' => e = .returned (.agg #[.int .u8 (bt (6989586621679009792) 0), .int .u8 (bt (6989586621679009792) 1), .int .u8 (bt (6989586621679009792) 2), .int .u8 (bt (6989586621679009792) 3), .int .u8 (bt (6989586621679009792) 4), .int .u8 (bt (6989586621679009792) 5), .int .u8 (bt (6989586621679009792) 6), .int .u8 (bt (6989586621679009792) 7)]) ∧ Below w.heap.size w w' := by
  have h := nameK_any ⟨#[97]⟩ (by decide) w
  rw [pA, nums_bt] at h
  exact h

theorem nameB (w : World) : Calls Tryd.prog 16 #[.string ⟨#[98]⟩] w fun e w' => e = .returned (.agg #[.int .u8 (bt (7061644215716937728) 0), .int .u8 (bt (7061644215716937728) 1), .int .u8 (bt (7061644215716937728) 2), .int .u8 (bt (7061644215716937728) 3), .int .u8 (bt (7061644215716937728) 4), .int .u8 (bt (7061644215716937728) 5), .int .u8 (bt (7061644215716937728) 6), .int .u8 (bt (7061644215716937728) 7)]) ∧ Below w.heap.size w w' := by
  have h := nameK_any ⟨#[98]⟩ (by decide) w
  rw [pB, nums_bt] at h
  exact h

/-- What is seen in the example. -/
def exA : List Sn := [⟨6989586621679009792, 3⟩]
def exL : List Sn := [⟨6989586621679009792, 3⟩, ⟨7061644215716937728, 1⟩]

theorem may_nil : May [] := ⟨by decide, Ris.nil, fun _ h => by cases h⟩

theorem i1 : ins [] 6989586621679009792 3 = exA := rfl
theorem i2 : ins exA 7061644215716937728 1 = exL := rfl
theorem i3 : ins exL 6989586621679009792 2 = exL := rfl

theorem may_A : May exA := by
  have h := may_nil.ins (q := 6989586621679009792) (v := 3) kA (by decide) (by rw [i1]; decide)
  rw [i1] at h
  exact h

theorem may_L : May exL := by
  have h := may_A.ins (q := 7061644215716937728) (v := 1) kB (by decide) (by rw [i2]; decide)
  rw [i2] at h
  exact h

theorem s1 : seeL [] 6989586621679009792 3 = (exA, 0) := by
  rw [see_may may_nil, kA, i1]
  rfl
theorem s2 : seeL exA 7061644215716937728 1 = (exL, 0) := by
  rw [see_may may_A, kB, i2]
  rfl
theorem s3 : seeL exL 6989586621679009792 2 = (exL, 0) := by
  rw [see_may may_L, kA, i3]
  rfl

theorem fit_nil : Fit [] := fun _ h => by cases h
theorem fit_A : Fit exA := fun s hs => by rw [List.mem_singleton.1 hs]; decide
theorem fit_L : Fit exL := fun s hs => by
  rcases List.mem_cons.1 hs with rfl | hs
  · decide
  · rw [List.mem_singleton.1 hs]; decide

/-- The example's key. -/
def exK : List Int := [48, 49, 50, 51, 52, 53, 54, 55, 56, 57, 97, 98, 99, 100, 101, 102]

theorem exK_by : By exK := by
  intro x hx
  unfold exK at hx
  simp only [List.mem_cons, List.not_mem_nil, or_false] at hx
  omega

theorem exK_rd (w : World) (e : TypeId) (fz : Nat × Nat) : Rd .u8 (w.alloc (.cells #[.int .u8 48, .int .u8 49, .int .u8 50, .int .u8 51, .int .u8 52, .int .u8 53, .int .u8 54, .int .u8 55, .int .u8 56, .int .u8 57, .int .u8 97, .int .u8 98, .int .u8 99, .int .u8 100, .int .u8 101, .int .u8 102] e fz)) (some ⟨w.heap.size, 0, none⟩) 16 16 exK := by
  refine ⟨rfl, Nat.le_refl _, (fun h => by cases h), fun _ => ⟨w.heap.size, 0, rfl, fun i hi => ?_⟩⟩
  have h : (w.alloc (.cells #[.int .u8 48, .int .u8 49, .int .u8 50, .int .u8 51, .int .u8 52, .int .u8 53, .int .u8 54, .int .u8 55, .int .u8 56, .int .u8 57, .int .u8 97, .int .u8 98, .int .u8 99, .int .u8 100, .int .u8 101, .int .u8 102] e fz)).heap[w.heap.size]? = some (.cells #[.int .u8 48, .int .u8 49, .int .u8 50, .int .u8 51, .int .u8 52, .int .u8 53, .int .u8 54, .int .u8 55, .int .u8 56, .int .u8 57, .int .u8 97, .int .u8 98, .int .u8 99, .int .u8 100, .int .u8 101, .int .u8 102] e fz) := heap_alloc_new _ _
  unfold World.cell?
  dsimp only
  rw [h, Nat.zero_add]
  have h2 : ∀ i, i < 16 → (#[.int .u8 48, .int .u8 49, .int .u8 50, .int .u8 51, .int .u8 52, .int .u8 53, .int .u8 54, .int .u8 55, .int .u8 56, .int .u8 57, .int .u8 97, .int .u8 98, .int .u8 99, .int .u8 100, .int .u8 101, .int .u8 102] : Array Value)[i]? = some (.int .u8 (exK.getD i 0)) := by
    intro i hi
    obtain rfl | rfl | rfl | rfl | rfl | rfl | rfl | rfl | rfl | rfl | rfl | rfl | rfl | rfl | rfl | rfl : i = 0 ∨ i = 1 ∨ i = 2 ∨ i = 3 ∨ i = 4 ∨ i = 5 ∨ i = 6 ∨ i = 7 ∨ i = 8 ∨ i = 9 ∨ i = 10 ∨ i = 11 ∨ i = 12 ∨ i = 13 ∨ i = 14 ∨ i = 15 := by omega
    all_goals rfl
  exact h2 i hi

theorem zeros_rd (w : World) (e : TypeId) : Rd .u8 (w.alloc (.cells #[.int .u8 0, .int .u8 0, .int .u8 0, .int .u8 0, .int .u8 0, .int .u8 0, .int .u8 0] e)) (some ⟨w.heap.size, 0, none⟩) 7 7 [0, 0, 0, 0, 0, 0, 0] := by
  refine ⟨rfl, Nat.le_refl _, (fun h => by cases h), fun _ => ⟨w.heap.size, 0, rfl, fun i hi => ?_⟩⟩
  rw [Nat.zero_add, cell_of_row _ w.heap.size i _ _ _ (heap_alloc_new w _)]
  match i, hi with
  | 0, _ => rfl
  | 1, _ => rfl
  | 2, _ => rfl
  | 3, _ => rfl
  | 4, _ => rfl
  | 5, _ => rfl
  | 6, _ => rfl

theorem made7 : madeCells (Value.int .u8 0).cells (7 * 1) = #[.int .u8 0, .int .u8 0, .int .u8 0, .int .u8 0, .int .u8 0, .int .u8 0, .int .u8 0] := by kernel_rfl

theorem run_make7 (W : World) : (Instr.makeSlice 27 (.int .i64 7) (.int .i64 7)).run Tryd.prog W = .ok (.slice (some ⟨W.heap.size, 0, none⟩) 7 7) (W.alloc (.cells #[.int .u8 0, .int .u8 0, .int .u8 0, .int .u8 0, .int .u8 0, .int .u8 0, .int .u8 0] 5)) := by
  obtain ⟨i, hi, hz, hs, hb⟩ := info_parts info5
  have h := run_makeSlice W 27 5 i (.int .u8 0) Tryd.underlying27 hi hz .i64 .i64 7 7 (by decide) (by decide) (by rw [hs]; decide) (by rw [hb]; decide) (by decide)
  rw [hs, show (7 : Int).toNat = 7 from rfl, made7] at h
  exact h

theorem zeros_by : By [0, 0, 0, 0, 0, 0, 0] := by
  intro x hx
  simp only [List.mem_cons, List.not_mem_nil, or_false] at hx
  omega

theorem two_rd (w : World) (e : TypeId) : RdM (w.alloc (.cells #[.int .u8 (bt (6989586621679009792) 0), .int .u8 (bt (6989586621679009792) 1), .int .u8 (bt (6989586621679009792) 2), .int .u8 (bt (6989586621679009792) 3), .int .u8 (bt (6989586621679009792) 4), .int .u8 (bt (6989586621679009792) 5), .int .u8 (bt (6989586621679009792) 6), .int .u8 (bt (6989586621679009792) 7), .int .i64 3, .int .u8 (bt (7061644215716937728) 0), .int .u8 (bt (7061644215716937728) 1), .int .u8 (bt (7061644215716937728) 2), .int .u8 (bt (7061644215716937728) 3), .int .u8 (bt (7061644215716937728) 4), .int .u8 (bt (7061644215716937728) 5), .int .u8 (bt (7061644215716937728) 6), .int .u8 (bt (7061644215716937728) 7), .int .i64 1] e)) (some ⟨w.heap.size, 0, none⟩) 2 2 exL := by
  refine RdM.of_flat rfl (Nat.le_refl _) fun j hj => ?_
  rw [Nat.zero_add, cell_of_row _ w.heap.size j _ _ _ (heap_alloc_new w _)]
  obtain rfl | rfl | rfl | rfl | rfl | rfl | rfl | rfl | rfl | rfl | rfl | rfl | rfl | rfl | rfl | rfl | rfl | rfl : j = 0 ∨ j = 1 ∨ j = 2 ∨ j = 3 ∨ j = 4 ∨ j = 5 ∨ j = 6 ∨ j = 7 ∨ j = 8 ∨ j = 9 ∨ j = 10 ∨ j = 11 ∨ j = 12 ∨ j = 13 ∨ j = 14 ∨ j = 15 ∨ j = 16 ∨ j = 17 := by omega
  all_goals rfl

set_option maxRecDepth 20000 in
set_option maxHeartbeats 4000000 in
theorem awake_any (w : World) (hT : Tabs w) : Calls Tryd.prog 7 #[] w fun e w' => e = .returned (.bool true) ∧ Below w.heap.size w w' := by
  have hcv := fun (w : World) (C : Array Value) (n c : Nat) => Lib.run_convert_bytes_const (P := Tryd.prog) w 27 5 C n c Tryd.underlying27 Tryd.underlying5
  have hb0 : Below w.heap.size w (w.alloc (.cells #[.int .u8 48, .int .u8 49, .int .u8 50, .int .u8 51, .int .u8 52, .int .u8 53, .int .u8 54, .int .u8 55, .int .u8 56, .int .u8 57, .int .u8 97, .int .u8 98, .int .u8 99, .int .u8 100, .int .u8 101, .int .u8 102] 5 (16, 17))) := below_alloc w _
  have hK0 := exK_rd w 5 (16, 17)
  have hT0 := hT.up hb0
  have hm7 := fun W => run_make7 W
  have zL := (right_iff exL).2 may_L
  have zN := (right_iff []).2 may_nil
  have hP105 := passL_len exK exL may_L fit_L
  have cA := fun W => nameA W
  have cB := fun W => nameB W
  go_enter Tryd.func7, Tryd.ntmps7
  go_wp2_with fail
  refine (cA _).mono ?_
  rintro e w1 ⟨rfl, hb1⟩
  have hK1 := hK0.below hb1
  have hT1 := hT0.up hb1
  have hB1 := hb0.trans (hb1.mono hb0.size)
  have cS := see_any none 0 0 [] 6989586621679009792 3 w1 (RdM.nilR _ _) fit_nil (by decide) (by decide) hT1
  rw [s1] at cS
  clear hK0 hT0 hb0 hb1 hcv
  go_wp2_with fail
  refine cS.mono ?_
  rintro e w2 ⟨q2, d2, rfl, hl2, hb2⟩
  have hK2 := hK1.below hb2
  have hT2 := hT1.up hb2
  have hB2 := hB1.trans (hb2.mono hB1.size)
  clear cS hK1 hT1 hB1 hb2
  go_wp2_with fail
  refine (cB _).mono ?_
  rintro e w3 ⟨rfl, hb3⟩
  have hK3 := hK2.below hb3
  have hT3 := hT2.up hb3
  have hl3 := hl2.below hb3
  have hB3 := hB2.trans (hb3.mono hB2.size)
  have cS := see_any q2 1 d2 exA 7061644215716937728 1 w3 hl3 fit_A (by decide) (by decide) hT3
  rw [s2] at cS
  clear hK2 hT2 hB2 hb3 hl2
  go_wp2_with fail
  refine cS.mono ?_
  rintro e w4 ⟨q4, d4, rfl, hl4, hb4⟩
  have hK4 := hK3.below hb4
  have hT4 := hT3.up hb4
  have hB4 := hB3.trans (hb4.mono hB3.size)
  clear cS hK3 hT3 hB3 hb4 hl3
  go_wp2_with fail
  refine (cA _).mono ?_
  rintro e w5 ⟨rfl, hb5⟩
  have hK5 := hK4.below hb5
  have hT5 := hT4.up hb5
  have hl5 := hl4.below hb5
  have hB5 := hB4.trans (hb5.mono hB4.size)
  have cS := see_any q4 2 d4 exL 6989586621679009792 2 w5 hl5 fit_L (by decide) (by decide) hT5
  rw [s3] at cS
  clear hK4 hT4 hB4 hb5 hl4
  go_wp2_with fail
  refine cS.mono ?_
  rintro e w6 ⟨q6, d6, rfl, hl6, hb6⟩
  have hK6 := hK5.below hb6
  have hT6 := hT5.up hb6
  have hB6 := hB5.trans (hb6.mono hB5.size)
  clear cS hK5 hT5 hB5 hb6 hl5
  have cM := make_any _ 16 exK q6 2 d6 exL w6 hK6 exK_by hl6 fit_L zL hT6
  go_wp2_with fail
  refine cM.mono ?_
  rintro e w7 ⟨q7, d7, rfl, hp7, hb7⟩
  have hK7 := hK6.below hb7
  have hT7 := hT6.up hb7
  have hl7 := hl6.below hb7
  have hB7 := hB6.trans (hb7.mono hB6.size)
  clear cM hK6 hT6 hB6 hb7 hl6
  have cR := read_pass _ 16 exK q7 _ d7 _ exL w7 hK7 exK_by hp7 (passL_by _ _) (by omega) zL fit_L hT7 (pass_claims _ _)
  rw [if_pos rfl, if_pos rfl] at cR
  generalize (passL exK exL).length = pl at *
  clear hp7
  go_wp2_with fail
  refine cR.mono ?_
  rintro e w8 ⟨q8, d8, rfl, hx8, hb8⟩
  have hK8 := hK7.below hb8
  have hT8 := hT7.up hb8
  have hl8 := hl7.below hb8
  have hB8 := hB7.trans (hb8.mono hB7.size)
  clear cR hK7 hT7 hB7 hb8 hl7
  have hba := below_alloc w8 (.cells #[.int .u8 0, .int .u8 0, .int .u8 0, .int .u8 0, .int .u8 0, .int .u8 0, .int .u8 0] 5)
  have hK9 := hK8.below hba
  have hT9 := hT8.up hba
  have hl9 := hl8.below hba
  have hx9 := hx8.below hba
  have hB9 := hB8.trans (hba.mono hB8.size)
  have cR := read_pass _ 16 exK _ 7 7 _ [] _ hK9 exK_by (zeros_rd w8 5) zeros_by (by decide) zN fit_nil hT9 (Or.inr ⟨[0, 0, 0, 0, 0, 0], rfl⟩)
  have hne : ¬ passL exK [] = [0, 0, 0, 0, 0, 0, 0] := fun h => by cases h
  rw [if_neg hne, if_neg hne] at cR
  clear hne hK8 hT8 hB8 hba hl8 hx8
  go_wp2_with fail
  refine cR.mono ?_
  rintro e w10 ⟨q10, d10, rfl, _, hb10⟩
  have hl10 := hl9.below hb10
  have hx10 := hx9.below hb10
  have hB10 := hB9.trans (hb10.mono hB9.size)
  clear cR hK9 hT9 hB9 hb10 hl9 hx9
  go_wp2_with fail
  refine (cA _).mono ?_
  rintro e w11 ⟨rfl, hb11⟩
  have hl11 := hl10.below hb11
  have hx11 := hx10.below hb11
  have hB11 := hB10.trans (hb11.mono hB10.size)
  clear hl10 hx10 hB10 hb11
  go_wp2_with fail
  refine (cB _).mono ?_
  rintro e w12 ⟨rfl, hb12⟩
  have hba := hb12.trans ((below_alloc w12 (.cells #[.int .u8 (bt (6989586621679009792) 0), .int .u8 (bt (6989586621679009792) 1), .int .u8 (bt (6989586621679009792) 2), .int .u8 (bt (6989586621679009792) 3), .int .u8 (bt (6989586621679009792) 4), .int .u8 (bt (6989586621679009792) 5), .int .u8 (bt (6989586621679009792) 6), .int .u8 (bt (6989586621679009792) 7), .int .i64 3, .int .u8 (bt (7061644215716937728) 0), .int .u8 (bt (7061644215716937728) 1), .int .u8 (bt (7061644215716937728) 2), .int .u8 (bt (7061644215716937728) 3), .int .u8 (bt (7061644215716937728) 4), .int .u8 (bt (7061644215716937728) 5), .int .u8 (bt (7061644215716937728) 6), .int .u8 (bt (7061644215716937728) 7), .int .i64 1] 36)).mono hb12.size)
  have hl13 := hl11.below hba
  have hx13 := hx11.below hba
  have hB13 := hB11.trans (hba.mono hB11.size)
  have cE := equalM_any q6 _ 2 2 d6 2 exL exL _ hl13 (two_rd w12 36) fit_L fit_L (by decide) (by decide)
  rw [eqSns_self] at cE
  clear hl11 hx11 hB11 hb12 hba cA cB
  go_wp2_with fail
  refine cE.mono ?_
  rintro e w14 ⟨rfl, hb14⟩
  have hl14 := hl13.below hb14
  have hx14 := hx13.below hb14
  have hB14 := hB13.trans (hb14.mono hB13.size)
  have cE := equalM_any q8 q6 2 2 d8 d6 exL exL _ hx14 hl14 fit_L fit_L (by decide) (by decide)
  rw [eqSns_self] at cE
  clear hl13 hx13 hB13 hb14
  go_wp2_with fail
  refine cE.mono ?_
  rintro e w15 ⟨rfl, hb15⟩
  have hB15 := hB14.trans (hb15.mono hB14.size)
  clear cE
  go_wp2_with fail
  go_ret
  exact ⟨rfl, hB15⟩

end Go.Proofs.YtphdbpljgilcgaaDoor.M
