/-
  Own text: the point behind a call that may stand next: the contract of behind.
-/
import Derived.Test.YtmfmjoibofadlaaOOpen
import Derived.Test.YtmfmjoibofadlaaDet2
import Derived.Deep.MidRow
namespace Go.Proofs.Ytmfmjoibofadlaa.M
open Go.ChangeShapes Go.WideShapes Go.ChangeAt Go.RowKit
set_option linter.unusedSimpArgs false

/-- All that stood is as it was. -/
def Bl (w W : World) : Prop := Below w.heap.size w W

theorem Bl.stays (w : World) : Stays (Bl w) := fun _ _ h hb => h.trans (hb.mono h.size)

theorem Bl.out {w W : World} (h : Bl w W) : Below w.heap.size w W := h

/-- All but block g stands as it was, and there lies this point. -/
def BP (w : World) (g : Nat) (d : Nat) (v : ByteArray) (W : World) : Prop := Below g w W ∧ W.cell? ⟨g, 0, none⟩ = some (.int .u64 d) ∧ W.cell? ⟨g, 1, none⟩ = some (.string v) ∧ g < W.heap.size

theorem BP.stays (w : World) (g d : Nat) (v : ByteArray) : Stays (BP w g d v) := fun W W' h hb =>
  ⟨h.1.trans (hb.mono (Nat.le_of_lt h.2.2.2)), by rw [hb.cell (p := ⟨g, 0, none⟩) h.2.2.2]; exact h.2.1, by rw [hb.cell (p := ⟨g, 1, none⟩) h.2.2.2]; exact h.2.2.1, Nat.lt_of_lt_of_le h.2.2.2 hb.size⟩

theorem BP.put {w V : World} {g : Nat} (hb : Below w.heap.size w V) (hg : g < w.heap.size) (d : Nat) (v : ByteArray) {a b : Value} (h0 : V.cell? ⟨g, 0, none⟩ = some a) (h1 : V.cell? ⟨g, 1, none⟩ = some b) : BP w g d v (V.setCells g 0 [.int .u64 d, .string v]) := by
  have h2 : (V.setCell ⟨g, 0, none⟩ (.int .u64 d)).cell? ⟨g, 1, none⟩ = some b := by rw [World.cell?_setCell_other (h := fun e => absurd (congrArg Addr.off e) (by simp))]; exact h1
  refine ⟨?_, ?_, ?_, ?_⟩
  · exact ((hb.mono (Nat.le_of_lt hg)).setCell (p := ⟨g, 0, none⟩) (Nat.le_refl g) _).setCell (p := ⟨g, 1, none⟩) (Nat.le_refl g) _
  · show ((V.setCell ⟨g, 0, none⟩ (.int .u64 d)).setCell ⟨g, 1, none⟩ (.string v)).cell? ⟨g, 0, none⟩ = _
    rw [World.cell?_setCell_other (h := fun e => absurd (congrArg Addr.off e) (by simp))]
    exact World.cell?_setCell_same _ _ _ h0
  · exact World.cell?_setCell_same _ _ _ h2
  · show g < ((V.setCell ⟨g, 0, none⟩ (.int .u64 d)).setCell ⟨g, 1, none⟩ (.string v)).heap.size
    have := hb.size
    simp
    omega

theorem sizeP : (Try.prog.info? 53).map (·.size) = some 2 := by kernel_rfl

set_option maxRecDepth 20000 in
set_option maxHeartbeats 2000000 in
theorem behind_any (w : World) (h : Nat) (p : Option Addr) (n c : Nat) (q : Option Addr) (e : Nat) (L : List Lo) (mu : Nat) (ah : List Int) (H : Pa w h p n c q e L mu ah) (d : Nat) (hd : d < 18446744073709551616) (v : ByteArray) (k : Nat) (hk : k < n) :
    Calls Try.prog 29 #[.pointer (some ⟨h, 0, none⟩), .agg #[.int .u64 d, .string v], .int .i64 (k : Int)] w fun r w' => r = .returned (.agg #[.int .u64 (d ||| bitN k : Nat), .string (L.getD k .z0).s]) ∧ Below w.heap.size w w' := by
  have hb0 := below_alloc w (.cells #[.int .u64 d, .string v] 53)
  obtain ⟨b0', b1'⟩ := point_box w 53 d v
  have hb1 := below_alloc (w.alloc (.cells #[.int .u64 d, .string v] 53)) (.cells #[.int .u64 0, .string ⟨#[]⟩] 53)
  have hbb := hb0.trans (hb1.mono hb0.size)
  obtain ⟨c0, _, _, hops, _, _, _⟩ := H.below hbb
  have b0 := (hb1.cell (p := ⟨w.heap.size, 0, none⟩) (World.block_lt_of_cell? _ _ b0')).trans b0'
  obtain ⟨r0, r1⟩ := point_box (w.alloc (.cells #[.int .u64 d, .string v] 53)) 53 0 ⟨#[]⟩
  have hs1 : (w.alloc (.cells #[.int .u64 d, .string v] 53)).heap.size = w.heap.size + 1 := by simp
  have rf : ∀ j, ((w.alloc (.cells #[.int .u64 d, .string v] 53)).alloc (.cells #[.int .u64 0, .string ⟨#[]⟩] 53)).frozen? ⟨w.heap.size + 1, j, none⟩ = false := fun j => by rw [← hs1]; exact frozen_of_row _ _ j _ _ (heap_alloc_new _ _)
  rw [hs1] at r0 r1
  have hgl : w.heap.size + 1 < ((w.alloc (.cells #[.int .u64 d, .string v] 53)).alloc (.cells #[.int .u64 0, .string ⟨#[]⟩] 53)).heap.size := by simp
  obtain ⟨b, o, rfl, hc⟩ := hops.cells (by omega)
  obtain ⟨_, x1, _, _, _⟩ := hc k hk
  have hki : (k : Int) < (n : Int) := by omega
  have cW := fun W => with_any d (k : Int) W hd
  generalize (L.getD k .z0).s = ls at *
  generalize d ||| bitN (k : Int) = dz at *
  clear hc hops H hb0 hb1 b0' b1' hs1
  go_enter Try.func29, Try.ntmps29
  go_wp2_with fail
  generalize hV0 : ((w.alloc (.cells #[.int .u64 d, .string v] 53)).alloc (.cells #[.int .u64 0, .string ⟨#[]⟩] 53)) = V0 at *
  clear hV0
  have HG : Hid (w.heap.size ≤ w.heap.size + 1) := Nat.le_succ _
  generalize w.heap.size + 1 = g at *

  have hS0 : Bl V0 V0.drew := (Below.refl _ _).drew
  refine wp_region_det [0, 1, 2, 3, 4, 5, 6, 7, 8, 9, 10, 11, 12] (Bl V0) (Bl V0) (by kernel_rfl) hS0 ?_
  refine wpDet_take ?vB0 (Bl.stays V0) (fun _ h => h) (i := 0) rfl (by kernel_rfl) (by kernel_rfl) (by kernel_rfl) (by kernel_rfl) (fun _ _ _ h => h) (Gives.value (by rfl) ?yB0) ?rB0
  case yB0 => (intro w' hSw; (try dsimp only at hSw); go_simp; try with_reducible rfl)
  (try simp only [Act.put, List.getElem_toArray, List.getElem_cons_zero, List.getElem_cons_succ, List.setIfInBounds_toArray, List.set_cons_zero, List.set_cons_succ])
  refine wpDet_take ?vB1 (Bl.stays V0) (fun _ h => h) (i := 1) rfl (by kernel_rfl) (by kernel_rfl) (by kernel_rfl) (by kernel_rfl) (fun _ _ _ h => h) (Gives.value (by rfl) ?yB1) ?rB1
  case yB1 => (intro w' hSw; have zz0 := ((show Below _ _ _ from hSw).cell (p := ⟨w.heap.size, 0, none⟩) (World.block_lt_of_cell? _ _ b0)).trans b0; (try dsimp only at hSw); go_simp; try with_reducible rfl)
  (try simp only [Act.put, List.getElem_toArray, List.getElem_cons_zero, List.getElem_cons_succ, List.setIfInBounds_toArray, List.set_cons_zero, List.set_cons_succ])
  refine wpDet_take ?vB2 (Bl.stays V0) (fun _ h => h) (i := 2) rfl (by kernel_rfl) (by kernel_rfl) (by kernel_rfl) (by kernel_rfl) (fun _ _ _ h => h) (Gives.value (by rfl) ?yB2) ?rB2
  case yB2 => (intro w' hSw; (try dsimp only at hSw); go_simp; try with_reducible rfl)
  (try simp only [Act.put, List.getElem_toArray, List.getElem_cons_zero, List.getElem_cons_succ, List.setIfInBounds_toArray, List.set_cons_zero, List.set_cons_succ])
  refine wpDet_take (.int .u64 dz) (Bl.stays V0) (fun _ h => h) (i := 3) rfl (by kernel_rfl) (by kernel_rfl) (by kernel_rfl) (by kernel_rfl) (fun _ _ _ h => h) (Gives.call 47 #[.int .u64 d, .int .i64 (k : Int)] (by rfl) (fun _ => by first | (go_simp; done) | (go_simp; rfl)) (fun W hW => (cW W).mono fun e w' ⟨h1, h2⟩ => ⟨h1, h2 ▸ Below.refl _ _⟩)) ?_
  (try simp only [Act.put, List.getElem_toArray, List.getElem_cons_zero, List.getElem_cons_succ, List.setIfInBounds_toArray, List.set_cons_zero, List.set_cons_succ])
  refine wpDet_take ?vB4 (Bl.stays V0) (fun _ h => h) (i := 4) rfl (by kernel_rfl) (by kernel_rfl) (by kernel_rfl) (by kernel_rfl) (fun _ _ _ h => h) (Gives.value (by rfl) ?yB4) ?rB4
  case yB4 => (intro w' hSw; (try dsimp only at hSw); go_simp; try with_reducible rfl)
  (try simp only [Act.put, List.getElem_toArray, List.getElem_cons_zero, List.getElem_cons_succ, List.setIfInBounds_toArray, List.set_cons_zero, List.set_cons_succ])
  refine wpDet_take ?vB5 (Bl.stays V0) (fun _ h => h) (i := 5) rfl (by kernel_rfl) (by kernel_rfl) (by kernel_rfl) (by kernel_rfl) (fun _ _ _ h => h) (Gives.value (by rfl) ?yB5) ?rB5
  case yB5 => (intro w' hSw; (try dsimp only at hSw); go_simp; try with_reducible rfl)
  (try simp only [Act.put, List.getElem_toArray, List.getElem_cons_zero, List.getElem_cons_succ, List.setIfInBounds_toArray, List.set_cons_zero, List.set_cons_succ])
  refine wpDet_take ?vB6 (Bl.stays V0) (fun _ h => h) (i := 6) rfl (by kernel_rfl) (by kernel_rfl) (by kernel_rfl) (by kernel_rfl) (fun _ _ _ h => h) (Gives.value (by rfl) ?yB6) ?rB6
  case yB6 => (intro w' hSw; (try dsimp only at hSw); go_simp; try with_reducible rfl)
  (try simp only [Act.put, List.getElem_toArray, List.getElem_cons_zero, List.getElem_cons_succ, List.setIfInBounds_toArray, List.set_cons_zero, List.set_cons_succ])
  refine wpDet_take ?vB7 (Bl.stays V0) (fun _ h => h) (i := 7) rfl (by kernel_rfl) (by kernel_rfl) (by kernel_rfl) (by kernel_rfl) (fun _ _ _ h => h) (Gives.value (by rfl) ?yB7) ?rB7
  case yB7 => (intro w' hSw; have zz0 := ((show Below _ _ _ from hSw).cell (p := ⟨h, 0, none⟩) (World.block_lt_of_cell? _ _ c0)).trans c0; (try dsimp only at hSw); go_simp; try with_reducible rfl)
  (try simp only [Act.put, List.getElem_toArray, List.getElem_cons_zero, List.getElem_cons_succ, List.setIfInBounds_toArray, List.set_cons_zero, List.set_cons_succ])
  refine wpDet_take ?vB8 (Bl.stays V0) (fun _ h => h) (i := 8) rfl (by kernel_rfl) (by kernel_rfl) (by kernel_rfl) (by kernel_rfl) (fun _ _ _ h => h) (Gives.value (by rfl) ?yB8) ?rB8
  case yB8 => (intro w' hSw; (try dsimp only at hSw); go_simp; try with_reducible rfl)
  (try simp only [Act.put, List.getElem_toArray, List.getElem_cons_zero, List.getElem_cons_succ, List.setIfInBounds_toArray, List.set_cons_zero, List.set_cons_succ])
  refine wpDet_take ?vB9 (Bl.stays V0) (fun _ h => h) (i := 9) rfl (by kernel_rfl) (by kernel_rfl) (by kernel_rfl) (by kernel_rfl) (fun _ _ _ h => h) (Gives.value (by rfl) ?yB9) ?rB9
  case yB9 => (intro w' hSw; (try dsimp only at hSw); go_simp; try with_reducible rfl)
  (try simp only [Act.put, List.getElem_toArray, List.getElem_cons_zero, List.getElem_cons_succ, List.setIfInBounds_toArray, List.set_cons_zero, List.set_cons_succ])
  refine wpDet_take ?vB10 (Bl.stays V0) (fun _ h => h) (i := 10) rfl (by kernel_rfl) (by kernel_rfl) (by kernel_rfl) (by kernel_rfl) (fun _ _ _ h => h) (Gives.value (by rfl) ?yB10) ?rB10
  case yB10 => (intro w' hSw; (try dsimp only at hSw); go_simp; try with_reducible rfl)
  (try simp only [Act.put, List.getElem_toArray, List.getElem_cons_zero, List.getElem_cons_succ, List.setIfInBounds_toArray, List.set_cons_zero, List.set_cons_succ])
  refine wpDet_take ?vB11 (Bl.stays V0) (fun _ h => h) (i := 11) rfl (by kernel_rfl) (by kernel_rfl) (by kernel_rfl) (by kernel_rfl) (fun _ _ _ h => h) (Gives.value (by rfl) ?yB11) ?rB11
  case yB11 => (intro w' hSw; have zz0 := ((show Below _ _ _ from hSw).cell (p := ⟨b, o + k * 5 + 1, none⟩) (World.block_lt_of_cell? _ _ x1)).trans x1; (try dsimp only at hSw); go_simp; try with_reducible rfl)
  (try simp only [Act.put, List.getElem_toArray, List.getElem_cons_zero, List.getElem_cons_succ, List.setIfInBounds_toArray, List.set_cons_zero, List.set_cons_succ])
  refine wpDet_take ?vB12 (Bl.stays V0) (fun _ h => h) (i := 12) rfl (by kernel_rfl) (by kernel_rfl) (by kernel_rfl) (by kernel_rfl) (fun _ _ _ h => h) (Gives.value (by rfl) ?yB12) ?rB12
  case yB12 => (intro w' hSw; (try dsimp only at hSw); go_simp; try with_reducible rfl)
  (try simp only [Act.put, List.getElem_toArray, List.getElem_cons_zero, List.getElem_cons_succ, List.setIfInBounds_toArray, List.set_cons_zero, List.set_cons_succ])
  refine wpDet_ready (rs := [13]) (by kernel_rfl) (by simp) (AllDet.cons rfl (fun V hV K hK => ?_) AllDet.nil)
  rw [if_pos (by rfl)]
  have u0 := ((Bl.out hV).cell (p := ⟨g, 0, none⟩) (World.block_lt_of_cell? _ _ r0)).trans r0
  have u1 := ((Bl.out hV).cell (p := ⟨g, 1, none⟩) (World.block_lt_of_cell? _ _ r1)).trans r1
  have hth : V.there g 0 2 := fun j hj => by rw [Nat.zero_add]; match j, hj with | 0, _ => exact ⟨by rw [u0]; rfl, by rw [(Bl.out hV).frozen (p := ⟨g, 0, none⟩) (World.block_lt_of_cell? _ _ r0)]; exact rf 0⟩ | 1, _ => exact ⟨by rw [u1]; rfl, by rw [(Bl.out hV).frozen (p := ⟨g, 1, none⟩) (World.block_lt_of_cell? _ _ r1)]; exact rf 1⟩
  refine wp_store_mid 53 _ _ rfl g 0 #[.int .u64 dz, .string ls] rfl rfl hth sizeP (by simp [Value.oneCell']) ?_
  have hz : BP V0 g dz ls (V.setCells g 0 [.int .u64 dz, .string ls]) := BP.put (Bl.out hV) hgl dz ls u0 u1
  refine hK.out (BP V0 g dz ls) _ _ (BP.stays _ _ _ _) (no_lean (by kernel_rfl)) hz ?_
  clear hK K hV hth hz u0 u1
  (try simp only [Act.put, List.getElem_toArray, List.getElem_cons_zero, List.getElem_cons_succ, List.setIfInBounds_toArray, List.set_cons_zero, List.set_cons_succ])
  refine wpDet_done (by kernel_rfl) (fun W3 hV => ?_) _
  obtain ⟨hB, z0, z1, _⟩ := hV
  have hBB := hbb.trans (hB.mono HG.out)
  go_wp2_with fail
  exact bodyPost_ret (v := .agg #[.int .u64 (dz : Int), .string ls]) (by simp [results, Try.results29, go_sem, z0, z1]) rfl ⟨rfl, hBB⟩

end Go.Proofs.Ytmfmjoibofadlaa.M
