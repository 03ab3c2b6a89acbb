/-
  Own text: the contract of the digest by a key of another length, and of the example.
-/
import Derived.Test.YtlmmidlegdmjpaaGEq
import Derived.Test.YtlmmidlegdmjpaaGRefStir
namespace Go.Proofs.Ytlmmidlegdmjpaa.M
open Go.ChangeShapes Go.WideShapes Go.ChangeAt Go.RowKit

set_option maxRecDepth 20000 in
set_option maxHeartbeats 1000000 in
theorem of_bad (kp : Option Addr) (kn kc : Nat) (p : Option Addr) (n c : Nat) (w : World) (hk : kn ≠ 16) :
    Calls Try.prog 8 #[.slice kp kn kc, .slice p n c] w fun r w' => r = .returned (.tuple #[.agg (nums .u8 (List.replicate 16 0)), .int .i64 1]) ∧ Below w.heap.size w w' := by
  have hZ0 : ArrI 25 .u8 (w.alloc (.cells (nums .u8 (List.replicate 16 0)) 25)) w.heap.size (List.replicate 16 0) := ArrI.new _ .u8 w _
  have hb0 : Below w.heap.size w (w.alloc (.cells (nums .u8 (List.replicate 16 0)) 25)) := below_alloc _ _
  have hi := info_nums .u8 (List.replicate 16 0) infoB rfl
  have hZ1 := hZ0.setRow (List.replicate 16 0)
  have hb1 := hb0.trans (below_setRow _ w.heap.size (nums .u8 (List.replicate 16 0)) (Nat.le_refl _))
  rw [zero16] at hZ0
  have hd1 : ((kn : Int) != 16) = true := by simp; omega
  have hd2 : (kn != 16) = true := by simpa using hk
  go_enter Try.func8, Try.ntmps8
  go_wp2_with (refine wpList_store_row rfl 25 _ _ rfl w.heap.size (nums .u8 (List.replicate 16 0)) rfl rfl _ _ hZ0 hi rfl (nums_one _ _) ?_)
  exact bodyPost_ret (results_row_tmp (p := 4) (u := 5) rfl _ _ w.heap.size _ _ _ rfl hZ1 Try.underlying25 rfl hi) rfl ⟨rfl, hb1⟩

theorem awake_same : digest (List.replicate 16 0) [] = qB (stirN 12 (1, 0, 0, 0)) := by decide +kernel
theorem awake_not : ¬ digest (List.replicate 16 0) [] = List.replicate 16 0 := by decide +kernel

theorem Rd.new (w : World) (t : TypeId) (xs : List Int) (n : Nat) (hn : xs.length = n) : Rd .u8 (w.alloc (.cells (nums .u8 xs) t)) (some ⟨w.heap.size, 0, none⟩) n n xs := by
  refine ⟨hn, Nat.le_refl _, (fun h => by cases h), fun _ => ⟨w.heap.size, 0, rfl, fun i hi => ?_⟩⟩
  have h := (ArrI.new t .u8 w xs).cell (i := i) (by omega)
  rw [Nat.zero_add]
  exact h

theorem infoZ : (Try.prog.info? 5).map (fun i => (i.zero, i.size, i.bytes)) = some (some (.int .u8 0), 1, 1) := by kernel_rfl

theorem made15 : madeCells (Value.int .u8 0).cells (15 * 1) = nums .u8 (List.replicate 15 0) := by kernel_rfl

theorem run_make15 (W : World) : (Instr.makeSlice 22 (.int .i64 15) (.int .i64 15)).run Try.prog W = .ok (.slice (some ⟨W.heap.size, 0, none⟩) 15 15) (W.alloc (.cells (nums .u8 (List.replicate 15 0)) 5)) := by
  obtain ⟨i, hi, hz, hs, hb⟩ := info_parts infoZ
  have h := run_makeSlice W 22 5 i (.int .u8 0) Try.underlying22 hi hz .i64 .i64 15 15 (by decide) (by decide) (by rw [hs]; decide) (by rw [hb]; decide) (by decide)
  rw [hs, show (15 : Int).toNat = 15 from rfl, made15] at h
  exact h

theorem made16 : madeCells (Value.int .u8 0).cells (16 * 1) = nums .u8 (List.replicate 16 0) := by kernel_rfl

theorem run_make16 (W : World) : (Instr.makeSlice 22 (.int .i64 16) (.int .i64 16)).run Try.prog W = .ok (.slice (some ⟨W.heap.size, 0, none⟩) 16 16) (W.alloc (.cells (nums .u8 (List.replicate 16 0)) 5)) := by
  obtain ⟨i, hi, hz, hs, hb⟩ := info_parts infoZ
  have h := run_makeSlice W 22 5 i (.int .u8 0) Try.underlying22 hi hz .i64 .i64 16 16 (by decide) (by decide) (by rw [hs]; decide) (by rw [hb]; decide) (by decide)
  rw [hs, show (16 : Int).toNat = 16 from rfl, made16] at h
  exact h

theorem byt_zeros (n : Nat) : Byt (List.replicate n 0) := by
  intro x hx
  rw [List.mem_replicate] at hx
  obtain ⟨_, rfl⟩ := hx
  decide

set_option maxRecDepth 20000 in
set_option linter.unusedSimpArgs false in
set_option maxHeartbeats 4000000 in
theorem awake_any (w : World) : Calls Try.prog 6 #[] w fun r w' => r = .returned (.bool true) ∧ Below w.heap.size w w' := by
  obtain ⟨Z, hZ⟩ : ∃ Z : List Int, Z = List.replicate 16 0 := ⟨_, rfl⟩
  have hm15 := fun W => run_make15 W
  have hm16 := fun W => run_make16 W
  have cB := fun W => of_bad (some ⟨w.heap.size, 0, none⟩) 15 15 none 0 0 W (by decide)
  have hlZ : Z.length = 16 := by rw [hZ]; rfl
  have hbZ : Byt Z := by rw [hZ]; exact byt_zeros 16
  have hnZ : nums .u8 Z = #[.int .u8 0, .int .u8 0, .int .u8 0, .int .u8 0, .int .u8 0, .int .u8 0, .int .u8 0, .int .u8 0, .int .u8 0, .int .u8 0, .int .u8 0, .int .u8 0, .int .u8 0, .int .u8 0, .int .u8 0, .int .u8 0] := by rw [hZ]; rfl
  rw [← hZ] at hm16 cB
  obtain ⟨D, hD⟩ : ∃ D, D = digest Z [] := ⟨_, rfl⟩
  have hlD : D.length = 16 := by rw [hD]; exact digest_len _ _
  have hDq : D = qB (stirN 12 (1, 0, 0, 0)) := by rw [hD, hZ]; exact awake_same
  have hDn : ¬ D = Z := by rw [hD, hZ]; exact awake_not
  have hi0 := info_nums .u8 Z infoB hlZ
  have hi1 := info_nums .u8 D infoB hlD
  have hzz : (nums .u8 Z).size = (nums .u8 Z).size := rfl
  have hzD : (nums .u8 Z).size = (nums .u8 D).size := by rw [nums_size, nums_size, hlZ, hlD]
  have q1 := fun W => eql16 D D hlD hlD W
  have q2 := fun W => eql16 D Z hlD hlZ W
  rw [decide_eq_true rfl] at q1
  rw [decide_eq_false hDn] at q2
  have HD : Hid (D = digest Z []) := hD
  have HDq : Hid (D = qB (stirN 12 (1, 0, 0, 0))) := hDq
  have HnZ : Hid (nums .u8 Z = #[.int .u8 0, .int .u8 0, .int .u8 0, .int .u8 0, .int .u8 0, .int .u8 0, .int .u8 0, .int .u8 0, .int .u8 0, .int .u8 0, .int .u8 0, .int .u8 0, .int .u8 0, .int .u8 0, .int .u8 0, .int .u8 0]) := hnZ
  rw [hnZ] at q2
  clear hZ hD hDq hnZ
  go_enter Try.func6, Try.ntmps6
  go_wp2_with fail
  refine (cB _).mono ?_
  rintro e w1 ⟨rfl, hb1⟩
  have hbb1 := (below_alloc w _).trans (hb1.mono (by simp))
  clear hb1
  have hY : ArrI 25 .u8 (w1.alloc (.cells (nums .u8 Z) 25)) w1.heap.size Z := ArrI.new _ .u8 w1 _
  have hbb2 := (hbb1.alloc hbb1.size (.cells (nums .u8 Z) 25)).trans (below_setRow _ w1.heap.size (nums .u8 Z) hbb1.size)
  have hs2 : ((w1.alloc (.cells (nums .u8 Z) 25)).setRow w1.heap.size (nums .u8 Z)).heap.size = w1.heap.size + 1 := by simp
  generalize hl : Obj.cells (nums .u8 Z) 25 = ob at hY hbb2 hs2
  rw [HnZ.out] at hl
  subst hl
  go_wp2_with (refine wpList_store_row rfl 25 _ _ rfl w1.heap.size (nums .u8 Z) rfl rfl _ _ hY hi0 rfl (nums_one _ _) ?_)
  clear hY
  generalize (w1.alloc _).setRow w1.heap.size (nums .u8 Z) = W2 at hbb2 hs2 ⊢
  have hkey := Rd.new W2 5 Z 16 hlZ
  rw [hs2] at hkey
  have cO := of_any _ 16 Z none 0 0 [] _ hkey hbZ (Rd.empty .u8 _ none 0 (fun _ => rfl)) (fun _ h => by cases h)
  rw [← HD.out] at cO
  have hbb3 := hbb2.alloc hbb2.size (.cells (nums .u8 Z) 5)
  refine cO.mono ?_
  rintro e w3 ⟨rfl, hb3⟩
  have hbb4 := hbb3.trans (hb3.mono hbb3.size)
  clear hb3 hbb3 cO hkey
  have hY : ArrI 25 .u8 (w3.alloc (.cells (nums .u8 Z) 25)) w3.heap.size Z := ArrI.new _ .u8 w3 _
  have hbb5 := (hbb4.alloc hbb4.size (.cells (nums .u8 Z) 25)).trans (below_setRow _ w3.heap.size (nums .u8 D) hbb4.size)
  generalize hl : Obj.cells (nums .u8 Z) 25 = ob at hY hbb5
  rw [HnZ.out] at hl
  subst hl
  have hY5 := hY.setRow D
  go_wp2_with (refine wpList_store_row rfl 25 _ _ rfl w3.heap.size (nums .u8 D) rfl rfl _ _ hY hi1 hzD (nums_one _ _) ?_)
  clear hY
  generalize (w3.alloc _).setRow w3.heap.size (nums .u8 D) = W5 at hY5 hbb5 ⊢
  (try dsimp only [Act.put])
  generalize w3.heap.size = g at hY5 ⊢
  have hS : Hold w [(25, .u8, g, D)] W5 := Hold.cons hY5 (Hold.nil hbb5)
  have c1 := fun W hS => hold_call (w := w) (l := [(25, .u8, g, D)]) hS (stir_any (1, 0, 0, 0) W ⟨by decide, by decide, by decide, by decide⟩)
  have c2 := fun W hS => hold_call (w := w) (l := [(25, .u8, g, D)]) hS (bytes16_any (stirN 12 (1, 0, 0, 0)) W (stirN_lt ⟨by decide, by decide, by decide, by decide⟩ 12))
  rw [← HDq.out] at c2
  have hc : qA (1, 0, 0, 0) = #[.int .u32 1, .int .u32 0, .int .u32 0, .int .u32 0] := rfl
  rw [hc] at c1
  generalize qA (stirN 12 (1, 0, 0, 0)) = QS at c1 c2
  have hiD : (Try.prog.info? 25).map (·.size) = some (D.map (Value.int .u8)).length := by rw [List.length_map, hlD]; exact infoB
  have hnD : nums .u8 D = (D.map (Value.int .u8)).toArray := rfl
  rw [hnD] at q1 q2 c2
  clear hnD hm15 hm16 cB HD HDq HnZ hDn hi0 hi1 hzz hzD hlZ hbZ
  refine wp_region_held_drew (S := (Hold w [(25, .u8, g, D)])) (by kernel_rfl) hS.drew (fun hHeld => ?_)
  clear hHeld
  have hS0 := hS.drew
  refine wpAnyH_take (i := 0) (v := ?yv0) rfl (by kernel_rfl) (by kernel_rfl) (by kernel_rfl) (fun _ _ _ h => h) (Or.inl ⟨by rfl, ?yy0⟩) hS0 ?yr0
  case yy0 => (intro w hSw; (try dsimp only at hSw); go_simp; try with_reducible rfl)
  (try simp only [Act.put, List.getElem_toArray, List.getElem_cons_zero, List.getElem_cons_succ, List.setIfInBounds_toArray, List.set_cons_zero, List.set_cons_succ])
  refine wpAnyH_take (i := 1) (v := ?yv1) rfl (by kernel_rfl) (by kernel_rfl) (by kernel_rfl) (fun _ _ _ h => h) (Or.inl ⟨by rfl, ?yy1⟩) hS0 ?yr1
  case yy1 => (intro w hSw; (try dsimp only at hSw); go_simp; try with_reducible rfl)
  (try simp only [Act.put, List.getElem_toArray, List.getElem_cons_zero, List.getElem_cons_succ, List.setIfInBounds_toArray, List.set_cons_zero, List.set_cons_succ])
  refine wpAnyH_take (i := 2) (v := ?yv2) rfl (by kernel_rfl) (by kernel_rfl) (by kernel_rfl) (fun _ _ _ h => h) (Or.inl ⟨by rfl, ?yy2⟩) hS0 ?yr2
  case yy2 => (intro w hSw; (try dsimp only at hSw); go_simp; try with_reducible rfl)
  (try simp only [Act.put, List.getElem_toArray, List.getElem_cons_zero, List.getElem_cons_succ, List.setIfInBounds_toArray, List.set_cons_zero, List.set_cons_succ])
  refine wpAnyH_take (i := 3) (v := ?yv3) rfl (by kernel_rfl) (by kernel_rfl) (by kernel_rfl) (fun _ _ _ h => h) (Or.inl ⟨by rfl, ?yy3⟩) hS0 ?yr3
  case yy3 => (intro w hSw; (try dsimp only at hSw); go_simp; try with_reducible rfl)
  (try simp only [Act.put, List.getElem_toArray, List.getElem_cons_zero, List.getElem_cons_succ, List.setIfInBounds_toArray, List.set_cons_zero, List.set_cons_succ])
  refine wpAnyH_take (i := 4) (v := ?yv4) rfl (by kernel_rfl) (by kernel_rfl) (by kernel_rfl) (fun _ _ _ h => h) (Or.inl ⟨by rfl, ?yy4⟩) hS0 ?yr4
  case yy4 => (intro w hSw; (try dsimp only at hSw); go_simp; try with_reducible rfl)
  (try simp only [Act.put, List.getElem_toArray, List.getElem_cons_zero, List.getElem_cons_succ, List.setIfInBounds_toArray, List.set_cons_zero, List.set_cons_succ])
  refine wpAnyH_take (i := 5) (v := ?yv5) rfl (by kernel_rfl) (by kernel_rfl) (by kernel_rfl) (fun _ _ _ h => h) (Or.inl ⟨by rfl, ?yy5⟩) hS0 ?yr5
  case yy5 => (intro w hSw; (try dsimp only at hSw); go_simp; try with_reducible rfl)
  (try simp only [Act.put, List.getElem_toArray, List.getElem_cons_zero, List.getElem_cons_succ, List.setIfInBounds_toArray, List.set_cons_zero, List.set_cons_succ])
  refine wpAnyH_take (i := 6) (v := ?yv6) rfl (by kernel_rfl) (by kernel_rfl) (by kernel_rfl) (fun _ _ _ h => h) (Or.inl ⟨by rfl, ?yy6⟩) hS0 ?yr6
  case yy6 => (intro w hSw; (try dsimp only at hSw); go_simp; try with_reducible rfl)
  (try simp only [Act.put, List.getElem_toArray, List.getElem_cons_zero, List.getElem_cons_succ, List.setIfInBounds_toArray, List.set_cons_zero, List.set_cons_succ])
  refine wpAnyH_take (i := 7) (v := _) rfl (by kernel_rfl) (by kernel_rfl) (by kernel_rfl) (fun _ _ _ h => h) (yieldsIf_load_mid (by rfl) _ _ rfl _ _ rfl _ _ (fun _ h => (h.at 0 rfl).range) Try.underlying25 rfl hiD) hS0 ?_
  (try simp only [Act.put, List.getElem_toArray, List.getElem_cons_zero, List.getElem_cons_succ, List.setIfInBounds_toArray, List.set_cons_zero, List.set_cons_succ])
  refine wpAnyH_take (i := 8) (v := ?yv8) rfl (by kernel_rfl) (by kernel_rfl) (by kernel_rfl) (fun _ _ _ h => h) (Or.inl ⟨by rfl, ?yy8⟩) hS0 ?yr8
  case yy8 => (intro w hSw; (try dsimp only at hSw); go_simp; try with_reducible rfl)
  (try simp only [Act.put, List.getElem_toArray, List.getElem_cons_zero, List.getElem_cons_succ, List.setIfInBounds_toArray, List.set_cons_zero, List.set_cons_succ])
  refine wpAnyH_ready (rs := [9]) (by kernel_rfl) (by simp) (AllReadyH.cons rfl (fun K hK => ?_) AllReadyH.nil)
  go_simp
  refine (c1 _ hS0).mono ?_
  rintro e w1 ⟨rfl, hS1⟩
  go_wp2_with fail
  refine hK.out _ _ hS1 (fun hHeld => ?_)
  clear hK K hHeld
  (try simp only [Act.put, List.getElem_toArray, List.getElem_cons_zero, List.getElem_cons_succ, List.setIfInBounds_toArray, List.set_cons_zero, List.set_cons_succ])
  refine wpAnyH_ready (rs := [10]) (by kernel_rfl) (by simp) (AllReadyH.cons rfl (fun K hK => ?_) AllReadyH.nil)
  go_simp
  refine (c2 _ hS1).mono ?_
  rintro e w2 ⟨rfl, hS2⟩
  go_wp2_with fail
  refine hK.out _ _ hS2 (fun hHeld => ?_)
  clear hK K hHeld
  (try simp only [Act.put, List.getElem_toArray, List.getElem_cons_zero, List.getElem_cons_succ, List.setIfInBounds_toArray, List.set_cons_zero, List.set_cons_succ])
  refine wpAnyH_take (i := 11) (v := ?yv11) rfl (by kernel_rfl) (by kernel_rfl) (by kernel_rfl) (fun _ _ _ h => h) (Or.inl ⟨by rfl, ?yy11⟩) hS2 ?yr11
  case yy11 => (intro w hSw; (try dsimp only at hSw); go_simp; try with_reducible rfl)
  (try simp only [Act.put, List.getElem_toArray, List.getElem_cons_zero, List.getElem_cons_succ, List.setIfInBounds_toArray, List.set_cons_zero, List.set_cons_succ])
  refine wpAnyH_take (i := 12) (v := ?yv12) rfl (by kernel_rfl) (by kernel_rfl) (by kernel_rfl) (fun _ _ _ h => h) (Or.inl ⟨by rfl, ?yy12⟩) hS2 ?yr12
  case yy12 => (intro w hSw; (try dsimp only at hSw); go_simp; try with_reducible rfl)
  (try simp only [Act.put, List.getElem_toArray, List.getElem_cons_zero, List.getElem_cons_succ, List.setIfInBounds_toArray, List.set_cons_zero, List.set_cons_succ])
  refine wpAnyH_take (i := 13) (v := ?yv13) rfl (by kernel_rfl) (by kernel_rfl) (by kernel_rfl) (fun _ _ _ h => h) (Or.inl ⟨by rfl, ?yy13⟩) hS2 ?yr13
  case yy13 => (intro w hSw; (try dsimp only at hSw); go_simp; try with_reducible rfl)
  (try simp only [Act.put, List.getElem_toArray, List.getElem_cons_zero, List.getElem_cons_succ, List.setIfInBounds_toArray, List.set_cons_zero, List.set_cons_succ])
  refine wpAnyH_take (i := 14) (v := _) rfl (by kernel_rfl) (by kernel_rfl) (by kernel_rfl) (fun _ _ _ h => h) (yieldsIf_load_mid (by rfl) _ _ rfl _ _ rfl _ _ (fun _ h => (h.at 0 rfl).range) Try.underlying25 rfl hiD) hS2 ?_
  (try simp only [Act.put, List.getElem_toArray, List.getElem_cons_zero, List.getElem_cons_succ, List.setIfInBounds_toArray, List.set_cons_zero, List.set_cons_succ])
  refine wpAnyH_take (i := 15) (v := ?yv15) rfl (by kernel_rfl) (by kernel_rfl) (by kernel_rfl) (fun _ _ _ h => h) (Or.inl ⟨by rfl, ?yy15⟩) hS2 ?yr15
  case yy15 => (intro w hSw; (try dsimp only at hSw); go_simp; try with_reducible rfl)
  (try simp only [Act.put, List.getElem_toArray, List.getElem_cons_zero, List.getElem_cons_succ, List.setIfInBounds_toArray, List.set_cons_zero, List.set_cons_succ])
  refine wpAnyH_take (i := 16) (v := ?yv16) rfl (by kernel_rfl) (by kernel_rfl) (by kernel_rfl) (fun _ _ _ h => h) (Or.inl ⟨by rfl, ?yy16⟩) hS2 ?yr16
  case yy16 => (intro w hSw; (try dsimp only at hSw); go_simp; try with_reducible rfl)
  (try simp only [Act.put, List.getElem_toArray, List.getElem_cons_zero, List.getElem_cons_succ, List.setIfInBounds_toArray, List.set_cons_zero, List.set_cons_succ])
  refine wpAnyH_take (i := 17) (v := ?yv17) rfl (by kernel_rfl) (by kernel_rfl) (by kernel_rfl) (fun _ _ _ h => h) (Or.inl ⟨by rfl, ?yy17⟩) hS2 ?yr17
  case yy17 => (intro w hSw; (try dsimp only at hSw); go_simp; try with_reducible rfl)
  (try simp only [Act.put, List.getElem_toArray, List.getElem_cons_zero, List.getElem_cons_succ, List.setIfInBounds_toArray, List.set_cons_zero, List.set_cons_succ])
  refine wpAnyH_take (i := 18) (v := ?yv18) rfl (by kernel_rfl) (by kernel_rfl) (by kernel_rfl) (fun _ _ _ h => h) (Or.inl ⟨by rfl, ?yy18⟩) hS2 ?yr18
  case yy18 => (intro w hSw; (try dsimp only at hSw); go_simp; try with_reducible rfl)
  (try simp only [Act.put, List.getElem_toArray, List.getElem_cons_zero, List.getElem_cons_succ, List.setIfInBounds_toArray, List.set_cons_zero, List.set_cons_succ])
  refine wpAnyH_done (by kernel_rfl) ?_ _
  go_wp2_with fail
  go_ret
  exact ⟨rfl, hS2.2⟩

end Go.Proofs.Ytlmmidlegdmjpaa.M
