/-
  Own text: records that are the same are told so; tables, too.
-/
import Derived.Test.YtnbgdkdnlfomeaaDoorBDa
namespace Go.Proofs.YtnbgdkdnlfomeaaDoor.M
open Go.ChangeShapes Go.WideShapes Go.ChangeAt Go.RowKit Go.ChangeMaps Go.MapKept Go.Maps Go.Shelf Go.Proofs
set_option linter.unusedSimpArgs false

theorem eqBt_self (k : Nat) : eqBt k k = true := by simp [eqBt]
theorem eqRc_self (x : Rc) : eqRc x x = true := by simp [eqRc, eqBt_self]
theorem eqCe_self (x : Ce) : eqCe x x = true := by simp [eqCe, eqBt_self]
theorem eqDn_self (x : Dn) : eqDn x x = true := by simp [eqDn]
theorem infoDn : (Tryd.prog.info? 82).map (·.size) = some 3 := by kernel_rfl

theorem RdG.rangeB {T : Type} {S : Shp T} {w W : World} {b o n c : Nat} {fs : List T} (h : RdG S w (some ⟨b, o, none⟩) n c fs) (hb : Below w.heap.size w W) {i : Nat} (hi : i < n) : W.rangeAt b (o + i * S.E) (S.cs (fs.getD i S.z)) := by
  intro j v hj
  have hj2 : j < S.E := by
    have := (List.getElem?_eq_some_iff.1 hj).1
    rwa [S.len] at this
  obtain ⟨b', o', e, hc⟩ := (h.below hb).at (Nat.lt_of_le_of_lt (Nat.zero_le _) hi)
  cases e
  rw [hc i hi j hj2, List.getD_eq_getElem?_getD, hj]
  rfl

set_option maxRecDepth 20000 in
set_option maxHeartbeats 2000000 in
theorem sameR_any {w : World} {p q : Option Addr} {n c d : Nat} {l : List Rc} (h1 : RdG recS w p n c l) (h2 : RdG recS w q n d l) (hn : n ≤ 1000) :
    Calls Tryd.prog 25 #[.slice p n c, .slice q n d] w fun e w' => e = .returned (.bool true) ∧ Below w.heap.size w w' := by
  have hnn : ((n : Int) != (n : Int)) = false := by simp
  go_enter Tryd.func25, Tryd.ntmps25
  go_wp2_with fail
  go_loopw [13] (fun i wr => ∃ (k : Nat), k ≤ n ∧ i = .int .i64 k ∧ Below w.heap.size w wr) (fun i _ => n - (intOf i).toNat)
  case atStart => exact ⟨0, Nat.zero_le _, rfl, Below.refl _ _⟩
  case round =>
    obtain ⟨k, hk, rfl, hb⟩ := hrel
    by_cases hkn : k < n
    · have hki : (k : Int) < (n : Int) := by omega
      obtain ⟨b1, o1, rfl, _⟩ := h1.at (by omega)
      obtain ⟨b2, o2, rfl, _⟩ := h2.at (by omega)
      have hr1 : ∀ W, Bl wr W → W.rangeAt b1 (o1 + k * recS.E) (recS.cs (l.getD k .z0)) := fun W h => (h1.below hb).rangeB (Bl.out h) hkn
      have hr2 : ∀ W, Bl wr W → W.rangeAt b2 (o2 + k * recS.E) (recS.cs (l.getD k .z0)) := fun W h => (h2.below hb).rangeB (Bl.out h) hkn
      generalize l.getD k .z0 = x at *
      have hE := fun W => neq_rec x x W
      rw [eqRc_self, Bool.not_true] at hE
      clear h1 h2
      go_wp2_with fail
      have hS0 : Bl wr wr.drew := (Below.refl _ _).drew
      refine wp_region_det [0, 1, 2, 3, 4, 5, 6, 7, 8] (Bl wr) (Bl wr) (by kernel_rfl) hS0 ?_
      refine wpDet_take ?vW0 (Bl.stays wr) (fun _ h => h) (i := 0) rfl (by kernel_rfl) (by kernel_rfl) (by kernel_rfl) (by kernel_rfl) (fun _ _ _ h => h) (Gives.value (by rfl) ?yW0) ?rW0
      case yW0 => (intro w' hSw; (try dsimp only at hSw); go_simp; try with_reducible rfl)
      (try simp only [Act.put, List.getElem_toArray, List.getElem_cons_zero, List.getElem_cons_succ, List.setIfInBounds_toArray, List.set_cons_zero, List.set_cons_succ])
      refine wpDet_take ?vW1 (Bl.stays wr) (fun _ h => h) (i := 1) rfl (by kernel_rfl) (by kernel_rfl) (by kernel_rfl) (by kernel_rfl) (fun _ _ _ h => h) (Gives.value (by rfl) ?yW1) ?rW1
      case yW1 => (intro w' hSw; (try dsimp only at hSw); go_simp; try with_reducible rfl)
      (try simp only [Act.put, List.getElem_toArray, List.getElem_cons_zero, List.getElem_cons_succ, List.setIfInBounds_toArray, List.set_cons_zero, List.set_cons_succ])
      refine wpDet_take ?vW2 (Bl.stays wr) (fun _ h => h) (i := 2) rfl (by kernel_rfl) (by kernel_rfl) (by kernel_rfl) (by kernel_rfl) (fun _ _ _ h => h) (Gives.value (by rfl) ?yW2) ?rW2
      case yW2 => (intro w' hSw; (try dsimp only at hSw); go_simp; try with_reducible rfl)
      (try simp only [Act.put, List.getElem_toArray, List.getElem_cons_zero, List.getElem_cons_succ, List.setIfInBounds_toArray, List.set_cons_zero, List.set_cons_succ])
      refine wpDet_take (.agg #[.int .i64 x.ix, .int .i64 x.ep, .int .u8 (bt x.k 0), .int .u8 (bt x.k 1), .int .u8 (bt x.k 2), .int .u8 (bt x.k 3), .int .u8 (bt x.k 4), .int .u8 (bt x.k 5), .int .u8 (bt x.k 6), .int .u8 (bt x.k 7), .int .i64 x.v, .string x.s, .int .i64 x.c, .int .i64 x.q]) (Bl.stays wr) (fun _ h => h) (i := 3) rfl (by kernel_rfl) (by kernel_rfl) (by kernel_rfl) (by kernel_rfl) (fun _ _ _ h => h) (Gives.of_yields (yieldsIf_load_mid (by rfl) _ _ rfl _ _ rfl _ _ hr1 Tryd.underlying64 rfl infoRc)) ?_
      (try simp only [Act.put, List.getElem_toArray, List.getElem_cons_zero, List.getElem_cons_succ, List.setIfInBounds_toArray, List.set_cons_zero, List.set_cons_succ])
      refine wpDet_take ?vW4 (Bl.stays wr) (fun _ h => h) (i := 4) rfl (by kernel_rfl) (by kernel_rfl) (by kernel_rfl) (by kernel_rfl) (fun _ _ _ h => h) (Gives.value (by rfl) ?yW4) ?rW4
      case yW4 => (intro w' hSw; (try dsimp only at hSw); go_simp; try with_reducible rfl)
      (try simp only [Act.put, List.getElem_toArray, List.getElem_cons_zero, List.getElem_cons_succ, List.setIfInBounds_toArray, List.set_cons_zero, List.set_cons_succ])
      refine wpDet_take ?vW5 (Bl.stays wr) (fun _ h => h) (i := 5) rfl (by kernel_rfl) (by kernel_rfl) (by kernel_rfl) (by kernel_rfl) (fun _ _ _ h => h) (Gives.value (by rfl) ?yW5) ?rW5
      case yW5 => (intro w' hSw; (try dsimp only at hSw); go_simp; try with_reducible rfl)
      (try simp only [Act.put, List.getElem_toArray, List.getElem_cons_zero, List.getElem_cons_succ, List.setIfInBounds_toArray, List.set_cons_zero, List.set_cons_succ])
      refine wpDet_take ?vW6 (Bl.stays wr) (fun _ h => h) (i := 6) rfl (by kernel_rfl) (by kernel_rfl) (by kernel_rfl) (by kernel_rfl) (fun _ _ _ h => h) (Gives.value (by rfl) ?yW6) ?rW6
      case yW6 => (intro w' hSw; (try dsimp only at hSw); go_simp; try with_reducible rfl)
      (try simp only [Act.put, List.getElem_toArray, List.getElem_cons_zero, List.getElem_cons_succ, List.setIfInBounds_toArray, List.set_cons_zero, List.set_cons_succ])
      refine wpDet_take (.agg #[.int .i64 x.ix, .int .i64 x.ep, .int .u8 (bt x.k 0), .int .u8 (bt x.k 1), .int .u8 (bt x.k 2), .int .u8 (bt x.k 3), .int .u8 (bt x.k 4), .int .u8 (bt x.k 5), .int .u8 (bt x.k 6), .int .u8 (bt x.k 7), .int .i64 x.v, .string x.s, .int .i64 x.c, .int .i64 x.q]) (Bl.stays wr) (fun _ h => h) (i := 7) rfl (by kernel_rfl) (by kernel_rfl) (by kernel_rfl) (by kernel_rfl) (fun _ _ _ h => h) (Gives.of_yields (yieldsIf_load_mid (by rfl) _ _ rfl _ _ rfl _ _ hr2 Tryd.underlying64 rfl infoRc)) ?_
      (try simp only [Act.put, List.getElem_toArray, List.getElem_cons_zero, List.getElem_cons_succ, List.setIfInBounds_toArray, List.set_cons_zero, List.set_cons_succ])
      refine wpDet_take (.bool false) (Bl.stays wr) (fun _ h => h) (i := 8) rfl (by kernel_rfl) (by kernel_rfl) (by kernel_rfl) (by kernel_rfl) (fun _ _ _ h => h) (Gives.value (by rfl) ?yW8) ?rW8
      case yW8 => (intro w' hSw; (try dsimp only at hSw); go_simp; try with_reducible rfl)
      (try simp only [Act.put, List.getElem_toArray, List.getElem_cons_zero, List.getElem_cons_succ, List.setIfInBounds_toArray, List.set_cons_zero, List.set_cons_succ])
      refine wpDet_done (by kernel_rfl) (fun W9 hV => ?_) _
      have hb2 := hb.trans ((Bl.out hV).mono hb.size)
      clear hr1 hr2 hE hV hS0 hb
      go_wp2_with fail
      exact ⟨⟨k + 1, by omega, by go_num, hb2⟩, by simp [intOf]; omega⟩
    · have hki : ¬ (k : Int) < (n : Int) := by omega
      clear h1 h2
      go_wp2_with fail
      go_ret
      exact ⟨rfl, hb⟩

set_option maxRecDepth 20000 in
set_option maxHeartbeats 4000000 in
theorem sameT_any {w : World} (ix ep : Int) {cp cp2 dp dp2 : Option Addr} {cn cc cc2 dn dc dc2 : Nat} {C : List Ce} {D : List Dn} (hc1 : RdG celS w cp cn cc C) (hc2 : RdG celS w cp2 cn cc2 C) (hd1 : RdG donS w dp dn dc D) (hd2 : RdG donS w dp2 dn dc2 D) (hcn : cn ≤ 1000) (hdn : dn ≤ 1000) :
    Calls Tryd.prog 34 #[.agg #[.int .i64 ix, .int .i64 ep, .slice cp cn cc, .slice dp dn dc], .agg #[.int .i64 ix, .int .i64 ep, .slice cp2 cn cc2, .slice dp2 dn dc2]] w fun e w' => e = .returned (.bool true) ∧ Below w.heap.size w w' := by
  have h1 := below_alloc' w (.cells #[.int .i64 ix, .int .i64 ep, .slice cp cn cc, .slice dp dn dc] 25)
  have h2 := below_alloc' (w.alloc (.cells #[.int .i64 ix, .int .i64 ep, .slice cp cn cc, .slice dp dn dc] 25)) (.cells #[.int .i64 ix, .int .i64 ep, .slice cp2 cn cc2, .slice dp2 dn dc2] 25)
  have hs : (w.alloc (.cells #[.int .i64 ix, .int .i64 ep, .slice cp cn cc, .slice dp dn dc] 25)).heap.size = w.heap.size + 1 := by simp
  have hA0 := (At.new 25 w #[.int .i64 ix, .int .i64 ep, .slice cp cn cc, .slice dp dn dc]).below h2
  have hB0 := At.new 25 (w.alloc (.cells #[.int .i64 ix, .int .i64 ep, .slice cp cn cc, .slice dp dn dc] 25)) #[.int .i64 ix, .int .i64 ep, .slice cp2 cn cc2, .slice dp2 dn dc2]
  rw [hs] at hB0
  have hbb := h1.trans (h2.mono h1.size)
  have hxc1 := hc1.below hbb
  have hxc2 := hc2.below hbb
  have hxd1 := hd1.below hbb
  have hxd2 := hd2.below hbb
  clear h1 h2 hs hc1 hc2 hd1 hd2
  generalize hW : (w.alloc (.cells #[.int .i64 ix, .int .i64 ep, .slice cp cn cc, .slice dp dn dc] 25)).alloc (.cells #[.int .i64 ix, .int .i64 ep, .slice cp2 cn cc2, .slice dp2 dn dc2] 25) = W0 at *
  have a0 := hA0.cell 0
  have a1 := hA0.cell 1
  have a2 := hA0.cell 2
  have a3 := hA0.cell 3
  have b0 := hB0.cell 0
  have b1 := hB0.cell 1
  have b2 := hB0.cell 2
  have b3 := hB0.cell 3
  simp only [List.getElem?_toArray, List.getElem?_cons_zero, List.getElem?_cons_succ] at a0 a1 a2 a3 b0 b1 b2 b3
  have n1 : (ix != ix) = false := by simp
  have n2 : (ep != ep) = false := by simp
  have n3 : ((cn : Int) != (cn : Int)) = false := by simp
  have n4 : ((dn : Int) != (dn : Int)) = false := by simp
  go_enter Tryd.func34, Tryd.ntmps34
  go_wp2_with fail
  clear a0 a1 a2 a3 b0 b1 b2 b3 n1 n2 n3 n4 hW
  generalize w.heap.size + 1 = g2 at *
  have HB : Hid (Below w.heap.size w W0) := hbb
  have hgl : w.heap.size ≤ W0.heap.size := hbb.size
  clear hbb
  obtain ⟨g1, HG⟩ : ∃ g1, Hid (w.heap.size = g1) := ⟨_, rfl⟩
  rw [HG.out] at hA0 ⊢
  go_loopw [40] (fun i wr => ∃ (k : Nat), k ≤ cn ∧ i = .int .i64 k ∧ Below W0.heap.size W0 wr) (fun i _ => cn - (intOf i).toNat)
  case atStart => exact ⟨0, Nat.zero_le _, rfl, Below.refl _ _⟩
  case round =>
    obtain ⟨k, hk, rfl, hb⟩ := hrel
    have hA := hA0.below hb
    have hB := hB0.below hb
    by_cases hkn : k < cn
    · have hki : (k : Int) < (cn : Int) := by omega
      obtain ⟨b1, o1, rfl, _⟩ := hxc1.at (by omega)
      obtain ⟨b2, o2, rfl, _⟩ := hxc2.at (by omega)
      have hr1 : ∀ W, Bl wr W → W.rangeAt b1 (o1 + k * celS.E) (celS.cs (C.getD k .z0)) := fun W h => (hxc1.below hb).rangeB (Bl.out h) hkn
      have hr2 : ∀ W, Bl wr W → W.rangeAt b2 (o2 + k * celS.E) (celS.cs (C.getD k .z0)) := fun W h => (hxc2.below hb).rangeB (Bl.out h) hkn
      generalize C.getD k .z0 = x at *
      have hE := fun W => neq_cel x x W
      rw [eqCe_self, Bool.not_true] at hE
      clear hxc1 hxc2 hxd1 hxd2 hA0 hB0
      go_wp2_with fail
      have hS0 : Bl wr wr.drew := (Below.refl _ _).drew
      refine wp_region_det [0, 1, 2, 3, 4, 5, 6, 7, 8, 9, 10] (Bl wr) (Bl wr) (by kernel_rfl) hS0 ?_
      refine wpDet_take ?vW0 (Bl.stays wr) (fun _ h => h) (i := 0) rfl (by kernel_rfl) (by kernel_rfl) (by kernel_rfl) (by kernel_rfl) (fun _ _ _ h => h) (Gives.value (by rfl) ?yW0) ?rW0
      case yW0 => (intro w' hSw; (try dsimp only at hSw); go_simp; try with_reducible rfl)
      (try simp only [Act.put, List.getElem_toArray, List.getElem_cons_zero, List.getElem_cons_succ, List.setIfInBounds_toArray, List.set_cons_zero, List.set_cons_succ])
      refine wpDet_take ?vW1 (Bl.stays wr) (fun _ h => h) (i := 1) rfl (by kernel_rfl) (by kernel_rfl) (by kernel_rfl) (by kernel_rfl) (fun _ _ _ h => h) (Gives.value (by rfl) ?yW1) ?rW1
      case yW1 => (intro w' hSw; have a2 := At.cell (hA.below (Bl.out hSw)) 2; have b2 := At.cell (hB.below (Bl.out hSw)) 2; have a3 := At.cell (hA.below (Bl.out hSw)) 3; have b3 := At.cell (hB.below (Bl.out hSw)) 3; simp only [List.getElem?_toArray, List.getElem?_cons_zero, List.getElem?_cons_succ] at a2 a3 b2 b3; (try dsimp only at hSw); go_simp; try with_reducible rfl)
      (try simp only [Act.put, List.getElem_toArray, List.getElem_cons_zero, List.getElem_cons_succ, List.setIfInBounds_toArray, List.set_cons_zero, List.set_cons_succ])
      refine wpDet_take ?vW2 (Bl.stays wr) (fun _ h => h) (i := 2) rfl (by kernel_rfl) (by kernel_rfl) (by kernel_rfl) (by kernel_rfl) (fun _ _ _ h => h) (Gives.value (by rfl) ?yW2) ?rW2
      case yW2 => (intro w' hSw; (try dsimp only at hSw); go_simp; try with_reducible rfl)
      (try simp only [Act.put, List.getElem_toArray, List.getElem_cons_zero, List.getElem_cons_succ, List.setIfInBounds_toArray, List.set_cons_zero, List.set_cons_succ])
      refine wpDet_take ?vW3 (Bl.stays wr) (fun _ h => h) (i := 3) rfl (by kernel_rfl) (by kernel_rfl) (by kernel_rfl) (by kernel_rfl) (fun _ _ _ h => h) (Gives.value (by rfl) ?yW3) ?rW3
      case yW3 => (intro w' hSw; (try dsimp only at hSw); go_simp; try with_reducible rfl)
      (try simp only [Act.put, List.getElem_toArray, List.getElem_cons_zero, List.getElem_cons_succ, List.setIfInBounds_toArray, List.set_cons_zero, List.set_cons_succ])
      refine wpDet_take (.agg #[.int .u8 (bt x.k 0), .int .u8 (bt x.k 1), .int .u8 (bt x.k 2), .int .u8 (bt x.k 3), .int .u8 (bt x.k 4), .int .u8 (bt x.k 5), .int .u8 (bt x.k 6), .int .u8 (bt x.k 7), .int .i64 x.v, .string x.s]) (Bl.stays wr) (fun _ h => h) (i := 4) rfl (by kernel_rfl) (by kernel_rfl) (by kernel_rfl) (by kernel_rfl) (fun _ _ _ h => h) (Gives.of_yields (yieldsIf_load_mid (by rfl) _ _ rfl _ _ rfl _ _ hr1 Tryd.underlying53 rfl infoCe)) ?_
      (try simp only [Act.put, List.getElem_toArray, List.getElem_cons_zero, List.getElem_cons_succ, List.setIfInBounds_toArray, List.set_cons_zero, List.set_cons_succ])
      refine wpDet_take ?vW5 (Bl.stays wr) (fun _ h => h) (i := 5) rfl (by kernel_rfl) (by kernel_rfl) (by kernel_rfl) (by kernel_rfl) (fun _ _ _ h => h) (Gives.value (by rfl) ?yW5) ?rW5
      case yW5 => (intro w' hSw; (try dsimp only at hSw); go_simp; try with_reducible rfl)
      (try simp only [Act.put, List.getElem_toArray, List.getElem_cons_zero, List.getElem_cons_succ, List.setIfInBounds_toArray, List.set_cons_zero, List.set_cons_succ])
      refine wpDet_take ?vW6 (Bl.stays wr) (fun _ h => h) (i := 6) rfl (by kernel_rfl) (by kernel_rfl) (by kernel_rfl) (by kernel_rfl) (fun _ _ _ h => h) (Gives.value (by rfl) ?yW6) ?rW6
      case yW6 => (intro w' hSw; have a2 := At.cell (hA.below (Bl.out hSw)) 2; have b2 := At.cell (hB.below (Bl.out hSw)) 2; have a3 := At.cell (hA.below (Bl.out hSw)) 3; have b3 := At.cell (hB.below (Bl.out hSw)) 3; simp only [List.getElem?_toArray, List.getElem?_cons_zero, List.getElem?_cons_succ] at a2 a3 b2 b3; (try dsimp only at hSw); go_simp; try with_reducible rfl)
      (try simp only [Act.put, List.getElem_toArray, List.getElem_cons_zero, List.getElem_cons_succ, List.setIfInBounds_toArray, List.set_cons_zero, List.set_cons_succ])
      refine wpDet_take ?vW7 (Bl.stays wr) (fun _ h => h) (i := 7) rfl (by kernel_rfl) (by kernel_rfl) (by kernel_rfl) (by kernel_rfl) (fun _ _ _ h => h) (Gives.value (by rfl) ?yW7) ?rW7
      case yW7 => (intro w' hSw; (try dsimp only at hSw); go_simp; try with_reducible rfl)
      (try simp only [Act.put, List.getElem_toArray, List.getElem_cons_zero, List.getElem_cons_succ, List.setIfInBounds_toArray, List.set_cons_zero, List.set_cons_succ])
      refine wpDet_take ?vW8 (Bl.stays wr) (fun _ h => h) (i := 8) rfl (by kernel_rfl) (by kernel_rfl) (by kernel_rfl) (by kernel_rfl) (fun _ _ _ h => h) (Gives.value (by rfl) ?yW8) ?rW8
      case yW8 => (intro w' hSw; (try dsimp only at hSw); go_simp; try with_reducible rfl)
      (try simp only [Act.put, List.getElem_toArray, List.getElem_cons_zero, List.getElem_cons_succ, List.setIfInBounds_toArray, List.set_cons_zero, List.set_cons_succ])
      refine wpDet_take (.agg #[.int .u8 (bt x.k 0), .int .u8 (bt x.k 1), .int .u8 (bt x.k 2), .int .u8 (bt x.k 3), .int .u8 (bt x.k 4), .int .u8 (bt x.k 5), .int .u8 (bt x.k 6), .int .u8 (bt x.k 7), .int .i64 x.v, .string x.s]) (Bl.stays wr) (fun _ h => h) (i := 9) rfl (by kernel_rfl) (by kernel_rfl) (by kernel_rfl) (by kernel_rfl) (fun _ _ _ h => h) (Gives.of_yields (yieldsIf_load_mid (by rfl) _ _ rfl _ _ rfl _ _ hr2 Tryd.underlying53 rfl infoCe)) ?_
      (try simp only [Act.put, List.getElem_toArray, List.getElem_cons_zero, List.getElem_cons_succ, List.setIfInBounds_toArray, List.set_cons_zero, List.set_cons_succ])
      refine wpDet_take (.bool false) (Bl.stays wr) (fun _ h => h) (i := 10) rfl (by kernel_rfl) (by kernel_rfl) (by kernel_rfl) (by kernel_rfl) (fun _ _ _ h => h) (Gives.value (by rfl) ?yW10) ?rW10
      case yW10 => (intro w' hSw; have a2 := At.cell (hA.below (Bl.out hSw)) 2; have b2 := At.cell (hB.below (Bl.out hSw)) 2; have a3 := At.cell (hA.below (Bl.out hSw)) 3; have b3 := At.cell (hB.below (Bl.out hSw)) 3; simp only [List.getElem?_toArray, List.getElem?_cons_zero, List.getElem?_cons_succ] at a2 a3 b2 b3; (try dsimp only at hSw); go_simp; try with_reducible rfl)
      (try simp only [Act.put, List.getElem_toArray, List.getElem_cons_zero, List.getElem_cons_succ, List.setIfInBounds_toArray, List.set_cons_zero, List.set_cons_succ])
      refine wpDet_done (by kernel_rfl) (fun W9 hV => ?_) _
      have hb2 := hb.trans ((Bl.out hV).mono hb.size)
      clear hr1 hr2 hE hV hS0 hb hA hB
      go_wp2_with fail
      exact ⟨⟨k + 1, by omega, by go_num, hb2⟩, by simp [intOf]; omega⟩
    · have hki : ¬ (k : Int) < (cn : Int) := by omega
      have a3 := hA.cell 3
      simp only [List.getElem?_toArray, List.getElem?_cons_zero, List.getElem?_cons_succ] at a3
      clear hxc1 hxc2 hA hB
      go_wp2_with fail
      clear a3
      go_loopw [58] (fun i wr => ∃ (k : Nat), k ≤ dn ∧ i = .int .i64 k ∧ Below W0.heap.size W0 wr) (fun i _ => dn - (intOf i).toNat)
      case atStart => exact ⟨0, Nat.zero_le _, rfl, hb⟩
      case round =>
        clear hb hk hkn hki
        rename_i wk _ _ _ _
        obtain ⟨k, hk, rfl, hb⟩ := hrel
        have hA := hA0.below hb
        have hB := hB0.below hb
        by_cases hkn : k < dn
        · have hki : (k : Int) < (dn : Int) := by omega
          obtain ⟨b1, o1, rfl, _⟩ := hxd1.at (by omega)
          obtain ⟨b2, o2, rfl, _⟩ := hxd2.at (by omega)
          have hr1 : ∀ W, Bl wr W → W.rangeAt b1 (o1 + k * donS.E) (donS.cs (D.getD k .z0)) := fun W h => (hxd1.below hb).rangeB (Bl.out h) hkn
          have hr2 : ∀ W, Bl wr W → W.rangeAt b2 (o2 + k * donS.E) (donS.cs (D.getD k .z0)) := fun W h => (hxd2.below hb).rangeB (Bl.out h) hkn
          generalize D.getD k .z0 = x at *
          have hE := fun W => neq_don x x W
          rw [eqDn_self, Bool.not_true] at hE
          clear hxd1 hxd2 hA0 hB0
          go_wp2_with fail
          have hS0 : Bl wr wr.drew := (Below.refl _ _).drew
          refine wp_region_det [0, 1, 2, 3, 4, 5, 6, 7, 8, 9, 10] (Bl wr) (Bl wr) (by kernel_rfl) hS0 ?_
          refine wpDet_take ?vV0 (Bl.stays wr) (fun _ h => h) (i := 0) rfl (by kernel_rfl) (by kernel_rfl) (by kernel_rfl) (by kernel_rfl) (fun _ _ _ h => h) (Gives.value (by rfl) ?yV0) ?rV0
          case yV0 => (intro w' hSw; (try dsimp only at hSw); go_simp; try with_reducible rfl)
          (try simp only [Act.put, List.getElem_toArray, List.getElem_cons_zero, List.getElem_cons_succ, List.setIfInBounds_toArray, List.set_cons_zero, List.set_cons_succ])
          refine wpDet_take ?vV1 (Bl.stays wr) (fun _ h => h) (i := 1) rfl (by kernel_rfl) (by kernel_rfl) (by kernel_rfl) (by kernel_rfl) (fun _ _ _ h => h) (Gives.value (by rfl) ?yV1) ?rV1
          case yV1 => (intro w' hSw; have a2 := At.cell (hA.below (Bl.out hSw)) 2; have b2 := At.cell (hB.below (Bl.out hSw)) 2; have a3 := At.cell (hA.below (Bl.out hSw)) 3; have b3 := At.cell (hB.below (Bl.out hSw)) 3; simp only [List.getElem?_toArray, List.getElem?_cons_zero, List.getElem?_cons_succ] at a2 a3 b2 b3; (try dsimp only at hSw); go_simp; try with_reducible rfl)
          (try simp only [Act.put, List.getElem_toArray, List.getElem_cons_zero, List.getElem_cons_succ, List.setIfInBounds_toArray, List.set_cons_zero, List.set_cons_succ])
          refine wpDet_take ?vV2 (Bl.stays wr) (fun _ h => h) (i := 2) rfl (by kernel_rfl) (by kernel_rfl) (by kernel_rfl) (by kernel_rfl) (fun _ _ _ h => h) (Gives.value (by rfl) ?yV2) ?rV2
          case yV2 => (intro w' hSw; (try dsimp only at hSw); go_simp; try with_reducible rfl)
          (try simp only [Act.put, List.getElem_toArray, List.getElem_cons_zero, List.getElem_cons_succ, List.setIfInBounds_toArray, List.set_cons_zero, List.set_cons_succ])
          refine wpDet_take ?vV3 (Bl.stays wr) (fun _ h => h) (i := 3) rfl (by kernel_rfl) (by kernel_rfl) (by kernel_rfl) (by kernel_rfl) (fun _ _ _ h => h) (Gives.value (by rfl) ?yV3) ?rV3
          case yV3 => (intro w' hSw; (try dsimp only at hSw); go_simp; try with_reducible rfl)
          (try simp only [Act.put, List.getElem_toArray, List.getElem_cons_zero, List.getElem_cons_succ, List.setIfInBounds_toArray, List.set_cons_zero, List.set_cons_succ])
          refine wpDet_take (.agg #[.int .i64 x.c, .int .i64 x.q, .int .i64 x.v]) (Bl.stays wr) (fun _ h => h) (i := 4) rfl (by kernel_rfl) (by kernel_rfl) (by kernel_rfl) (by kernel_rfl) (fun _ _ _ h => h) (Gives.of_yields (yieldsIf_load_mid (by rfl) _ _ rfl _ _ rfl _ _ hr1 Tryd.underlying82 rfl infoDn)) ?_
          (try simp only [Act.put, List.getElem_toArray, List.getElem_cons_zero, List.getElem_cons_succ, List.setIfInBounds_toArray, List.set_cons_zero, List.set_cons_succ])
          refine wpDet_take ?vV5 (Bl.stays wr) (fun _ h => h) (i := 5) rfl (by kernel_rfl) (by kernel_rfl) (by kernel_rfl) (by kernel_rfl) (fun _ _ _ h => h) (Gives.value (by rfl) ?yV5) ?rV5
          case yV5 => (intro w' hSw; (try dsimp only at hSw); go_simp; try with_reducible rfl)
          (try simp only [Act.put, List.getElem_toArray, List.getElem_cons_zero, List.getElem_cons_succ, List.setIfInBounds_toArray, List.set_cons_zero, List.set_cons_succ])
          refine wpDet_take ?vV6 (Bl.stays wr) (fun _ h => h) (i := 6) rfl (by kernel_rfl) (by kernel_rfl) (by kernel_rfl) (by kernel_rfl) (fun _ _ _ h => h) (Gives.value (by rfl) ?yV6) ?rV6
          case yV6 => (intro w' hSw; have a2 := At.cell (hA.below (Bl.out hSw)) 2; have b2 := At.cell (hB.below (Bl.out hSw)) 2; have a3 := At.cell (hA.below (Bl.out hSw)) 3; have b3 := At.cell (hB.below (Bl.out hSw)) 3; simp only [List.getElem?_toArray, List.getElem?_cons_zero, List.getElem?_cons_succ] at a2 a3 b2 b3; (try dsimp only at hSw); go_simp; try with_reducible rfl)
          (try simp only [Act.put, List.getElem_toArray, List.getElem_cons_zero, List.getElem_cons_succ, List.setIfInBounds_toArray, List.set_cons_zero, List.set_cons_succ])
          refine wpDet_take ?vV7 (Bl.stays wr) (fun _ h => h) (i := 7) rfl (by kernel_rfl) (by kernel_rfl) (by kernel_rfl) (by kernel_rfl) (fun _ _ _ h => h) (Gives.value (by rfl) ?yV7) ?rV7
          case yV7 => (intro w' hSw; (try dsimp only at hSw); go_simp; try with_reducible rfl)
          (try simp only [Act.put, List.getElem_toArray, List.getElem_cons_zero, List.getElem_cons_succ, List.setIfInBounds_toArray, List.set_cons_zero, List.set_cons_succ])
          refine wpDet_take ?vV8 (Bl.stays wr) (fun _ h => h) (i := 8) rfl (by kernel_rfl) (by kernel_rfl) (by kernel_rfl) (by kernel_rfl) (fun _ _ _ h => h) (Gives.value (by rfl) ?yV8) ?rV8
          case yV8 => (intro w' hSw; (try dsimp only at hSw); go_simp; try with_reducible rfl)
          (try simp only [Act.put, List.getElem_toArray, List.getElem_cons_zero, List.getElem_cons_succ, List.setIfInBounds_toArray, List.set_cons_zero, List.set_cons_succ])
          refine wpDet_take (.agg #[.int .i64 x.c, .int .i64 x.q, .int .i64 x.v]) (Bl.stays wr) (fun _ h => h) (i := 9) rfl (by kernel_rfl) (by kernel_rfl) (by kernel_rfl) (by kernel_rfl) (fun _ _ _ h => h) (Gives.of_yields (yieldsIf_load_mid (by rfl) _ _ rfl _ _ rfl _ _ hr2 Tryd.underlying82 rfl infoDn)) ?_
          (try simp only [Act.put, List.getElem_toArray, List.getElem_cons_zero, List.getElem_cons_succ, List.setIfInBounds_toArray, List.set_cons_zero, List.set_cons_succ])
          refine wpDet_take (.bool false) (Bl.stays wr) (fun _ h => h) (i := 10) rfl (by kernel_rfl) (by kernel_rfl) (by kernel_rfl) (by kernel_rfl) (fun _ _ _ h => h) (Gives.value (by rfl) ?yV10) ?rV10
          case yV10 => (intro w' hSw; have a2 := At.cell (hA.below (Bl.out hSw)) 2; have b2 := At.cell (hB.below (Bl.out hSw)) 2; have a3 := At.cell (hA.below (Bl.out hSw)) 3; have b3 := At.cell (hB.below (Bl.out hSw)) 3; simp only [List.getElem?_toArray, List.getElem?_cons_zero, List.getElem?_cons_succ] at a2 a3 b2 b3; (try dsimp only at hSw); go_simp; try with_reducible rfl)
          (try simp only [Act.put, List.getElem_toArray, List.getElem_cons_zero, List.getElem_cons_succ, List.setIfInBounds_toArray, List.set_cons_zero, List.set_cons_succ])
          refine wpDet_done (by kernel_rfl) (fun W9 hV => ?_) _
          have hb2 := hb.trans ((Bl.out hV).mono hb.size)
          clear hr1 hr2 hE hV hS0 hb hA hB
          go_wp2_with fail
          exact ⟨⟨k + 1, by omega, by go_num, hb2⟩, by simp [intOf]; omega⟩
        · have hki : ¬ (k : Int) < (dn : Int) := by omega
          clear hxd1 hxd2 hA0 hB0 hA hB
          go_wp2_with fail
          go_ret
          exact ⟨rfl, HB.out.trans (hb.mono hgl)⟩

end Go.Proofs.YtnbgdkdnlfomeaaDoor.M
