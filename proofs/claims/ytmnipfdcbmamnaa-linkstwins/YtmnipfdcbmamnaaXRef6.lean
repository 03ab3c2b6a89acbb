/-
  Own text: the document's Net: Take.
-/
import Derived.Test.YtmnipfdcbmamnaaXRef5
namespace Go.Proofs.Ytmnipfdcbmamnaa.M
open Go.ChangeShapes Go.WideShapes Go.ChangeAt Go.RowKit Go.ChangeMaps Go.MapKept Go.Maps
set_option linter.unusedSimpArgs false

/-- What Take tells. -/
def tkV (d : Bool) (b : ByteArray) : Value := if d = true then .tuple #[.string { data := #[] }, .bool false, .int .i64 0] else .tuple #[.string b, .bool true, .int .i64 0]

set_option maxRecDepth 20000 in
set_option maxHeartbeats 4000000 in
theorem rTake_yes {w : World} {gx : Nat} {p : Option Addr} {n c : Nat} {bs : List Bool} {lost : Int} {its : List It} (h : XB w gx p n c bs lost its) (hn : n ≤ 1000000) (X Y : Nat) (hX : X < 64) (hY : Y < 64) (i : Int) {at_ : Nat} (hp : plR X Y its i 0 = some at_) :
    Calls Try.prog 31 #[.pointer (some ⟨gx, 0, none⟩), .agg #[.int .i64 X, .int .i64 Y], .int .i64 i] w fun o w' => o = .returned (tkV (bs.getD X false != bs.getD Y false) (its.getD at_ (0, 0, ByteArray.empty)).2.2) ∧ (∃ q m d, XB w' gx q m d bs lost (its.eraseIdx at_)) ∧ Ex gx w w' := by
  obtain ⟨t, HT⟩ : ∃ z, Hid (its.getD at_ (0, 0, ByteArray.empty) = z) := ⟨_, rfl⟩
  rw [HT.out]
  obtain ⟨sA, HA⟩ : ∃ z, Hid (bs.getD X false = z) := ⟨_, rfl⟩
  obtain ⟨sB, HB⟩ : ∃ z, Hid (bs.getD Y false = z) := ⟨_, rfl⟩
  rw [HA.out, HB.out]
  obtain ⟨VT, HV⟩ : ∃ z, Hid (tkV (sA != sB) t.2.2 = z) := ⟨_, rfl⟩
  rw [HV.out]
  have hba := below_alloc w (.cells #[.int .i64 X, .int .i64 Y] 33)
  have hA := At.new 33 w #[.int .i64 (X : Int), .int .i64 (Y : Int)]
  obtain ⟨a0, a1⟩ := hA.two
  have h1 := h.below hba
  have hP := rplace_any _ gx p n c its h1.c0 h1.rd hn X Y i
  have hV : plV X Y its i = (at_ : Int) := by unfold plV; rw [hp]; rfl
  rw [hV] at hP
  have hlt : at_ < n := by have := (plR_some X Y its i 0 at_ hp).1.2; rw [h.rd.len] at this; omega
  have hng : ¬ (at_ : Int) < 0 := by omega
  have hgl : gx < w.heap.size := h.blk.lt
  clear h hV hp
  go_enter Try.func31, Try.ntmps31
  go_wp2_with fail
  refine hP.mono ?_
  rintro o w2 ⟨rfl, hw⟩
  clear hP a0 a1
  have hX2 := h1.below hw
  have hA2 := hA.below hw
  have hb0 := hba.trans (hw.mono hba.size)
  have hcap := hX2.rd.cap
  have hlen := hX2.rd.len
  have hle : at_ ≤ n := Nat.le_of_lt hlt
  have hwr : IntKind.i64.wrap ((at_ : Int) + 1) = (at_ : Int) + 1 := by rw [IntKind.wrap_i64]; omega
  have hfl : ([] ++ its.take at_).length ≤ 1000000 := by rw [List.nil_append, List.length_take]; omega
  obtain ⟨gb, go, rfl, hc⟩ := hX2.rd.cells (by omega)
  obtain ⟨_, _, k2⟩ := hc at_ hlt
  rw [HT.out] at k2
  have hli : (at_ : Int) < (n : Int) := by omega
  obtain ⟨qb, hqb⟩ : ∃ z, z = (if c = at_ + 1 then some (⟨gb, go, none⟩ : Addr) else some ⟨gb, go + (at_ + 1) * 3, none⟩) := ⟨_, rfl⟩
  have hBK := hX2.rd.behind (k := at_ + 1) (by omega) hqb
  have c0 := hX2.c0
  clear h1 hw hba hc hA
  go_wp2_with fail
  clear k2 c0
  have hS0 : Bl w2 w2.drew := (Below.refl _ _).drew
  refine wp_region_det [0, 2, 3, 4, 5, 6, 7, 9, 10, 11, 12, 13, 14, 15] (fun W => XB W gx (some ⟨gb, go, none⟩) n c bs lost its) (Bl w2) (by kernel_rfl) hS0 ?_
  refine wpDet_take ?vA0 (Bl.stays w2) (fun W h => hX2.below h) (i := 0) rfl (by kernel_rfl) (by kernel_rfl) (by kernel_rfl) (by kernel_rfl) (fun _ _ _ h => h) (Gives.value (by rfl) ?yA0) ?rA0
  case yA0 => (intro w' hSw; go_simp; try with_reducible rfl)
  (try simp only [Act.put, List.getElem_toArray, List.getElem_cons_zero, List.getElem_cons_succ, List.setIfInBounds_toArray, List.set_cons_zero, List.set_cons_succ])
  refine wpDet_take ?vA2 (Bl.stays w2) (fun W h => hX2.below h) (i := 2) rfl (by kernel_rfl) (by kernel_rfl) (by kernel_rfl) (by kernel_rfl) (fun _ _ _ h => h) (Gives.value (by rfl) ?yA2) ?rA2
  case yA2 => (intro w' hSw; go_simp; try with_reducible rfl)
  (try simp only [Act.put, List.getElem_toArray, List.getElem_cons_zero, List.getElem_cons_succ, List.setIfInBounds_toArray, List.set_cons_zero, List.set_cons_succ])
  refine wpDet_take ?vA3 (Bl.stays w2) (fun W h => hX2.below h) (i := 3) rfl (by kernel_rfl) (by kernel_rfl) (by kernel_rfl) (by kernel_rfl) (fun _ _ _ h => h) (Gives.value (by rfl) ?yA3) ?rA3
  case yA3 => (intro w' hSw; go_simp; try with_reducible rfl)
  (try simp only [Act.put, List.getElem_toArray, List.getElem_cons_zero, List.getElem_cons_succ, List.setIfInBounds_toArray, List.set_cons_zero, List.set_cons_succ])
  refine wpDet_take ?vA4 (Bl.stays w2) (fun W h => hX2.below h) (i := 4) rfl (by kernel_rfl) (by kernel_rfl) (by kernel_rfl) (by kernel_rfl) (fun _ _ _ h => h) (Gives.value (by rfl) ?yA4) ?rA4
  case yA4 => (intro w' hSw; go_simp; try with_reducible rfl)
  (try simp only [Act.put, List.getElem_toArray, List.getElem_cons_zero, List.getElem_cons_succ, List.setIfInBounds_toArray, List.set_cons_zero, List.set_cons_succ])
  refine wpDet_take ?vA5 (Bl.stays w2) (fun W h => hX2.below h) (i := 5) rfl (by kernel_rfl) (by kernel_rfl) (by kernel_rfl) (by kernel_rfl) (fun _ _ _ h => h) (Gives.value (by rfl) ?yA5) ?rA5
  case yA5 => (intro w' hSw; have hz0 := hSw.c0; go_simp; try with_reducible rfl)
  (try simp only [Act.put, List.getElem_toArray, List.getElem_cons_zero, List.getElem_cons_succ, List.setIfInBounds_toArray, List.set_cons_zero, List.set_cons_succ])
  refine wpDet_take ?vA6 (Bl.stays w2) (fun W h => hX2.below h) (i := 6) rfl (by kernel_rfl) (by kernel_rfl) (by kernel_rfl) (by kernel_rfl) (fun _ _ _ h => h) (Gives.value (by rfl) ?yA6) ?rA6
  case yA6 => (intro w' hSw; go_simp; try with_reducible rfl)
  (try simp only [Act.put, List.getElem_toArray, List.getElem_cons_zero, List.getElem_cons_succ, List.setIfInBounds_toArray, List.set_cons_zero, List.set_cons_succ])
  refine wpDet_take (.slice (some ⟨gb, go, none⟩) at_ c) (Bl.stays w2) (fun W h => hX2.below h) (i := 7) rfl (by kernel_rfl) (by kernel_rfl) (by kernel_rfl) (by kernel_rfl) (fun _ _ _ h => h) (Gives.value (by rfl) ?yA7) ?rA7
  case yA7 => (intro w' hSw; go_simp; (try (intro hh; omega)))
  (try simp only [Act.put, List.getElem_toArray, List.getElem_cons_zero, List.getElem_cons_succ, List.setIfInBounds_toArray, List.set_cons_zero, List.set_cons_succ])
  refine wpDet_take ?vA9 (Bl.stays w2) (fun W h => hX2.below h) (i := 9) rfl (by kernel_rfl) (by kernel_rfl) (by kernel_rfl) (by kernel_rfl) (fun _ _ _ h => h) (Gives.value (by rfl) ?yA9) ?rA9
  case yA9 => (intro w' hSw; go_simp; try with_reducible rfl)
  (try simp only [Act.put, List.getElem_toArray, List.getElem_cons_zero, List.getElem_cons_succ, List.setIfInBounds_toArray, List.set_cons_zero, List.set_cons_succ])
  refine wpDet_take ?vA10 (Bl.stays w2) (fun W h => hX2.below h) (i := 10) rfl (by kernel_rfl) (by kernel_rfl) (by kernel_rfl) (by kernel_rfl) (fun _ _ _ h => h) (Gives.value (by rfl) ?yA10) ?rA10
  case yA10 => (intro w' hSw; go_simp; try with_reducible rfl)
  (try simp only [Act.put, List.getElem_toArray, List.getElem_cons_zero, List.getElem_cons_succ, List.setIfInBounds_toArray, List.set_cons_zero, List.set_cons_succ])
  refine wpDet_take ?vA11 (Bl.stays w2) (fun W h => hX2.below h) (i := 11) rfl (by kernel_rfl) (by kernel_rfl) (by kernel_rfl) (by kernel_rfl) (fun _ _ _ h => h) (Gives.value (by rfl) ?yA11) ?rA11
  case yA11 => (intro w' hSw; go_simp; try with_reducible rfl)
  (try simp only [Act.put, List.getElem_toArray, List.getElem_cons_zero, List.getElem_cons_succ, List.setIfInBounds_toArray, List.set_cons_zero, List.set_cons_succ])
  refine wpDet_take ?vA12 (Bl.stays w2) (fun W h => hX2.below h) (i := 12) rfl (by kernel_rfl) (by kernel_rfl) (by kernel_rfl) (by kernel_rfl) (fun _ _ _ h => h) (Gives.value (by rfl) ?yA12) ?rA12
  case yA12 => (intro w' hSw; have hz0 := hSw.c0; go_simp; try with_reducible rfl)
  (try simp only [Act.put, List.getElem_toArray, List.getElem_cons_zero, List.getElem_cons_succ, List.setIfInBounds_toArray, List.set_cons_zero, List.set_cons_succ])
  refine wpDet_take ?vA13 (Bl.stays w2) (fun W h => hX2.below h) (i := 13) rfl (by kernel_rfl) (by kernel_rfl) (by kernel_rfl) (by kernel_rfl) (fun _ _ _ h => h) (Gives.value (by rfl) ?yA13) ?rA13
  case yA13 => (intro w' hSw; go_simp; try with_reducible rfl)
  (try simp only [Act.put, List.getElem_toArray, List.getElem_cons_zero, List.getElem_cons_succ, List.setIfInBounds_toArray, List.set_cons_zero, List.set_cons_succ])
  refine wpDet_take ?vA14 (Bl.stays w2) (fun W h => hX2.below h) (i := 14) rfl (by kernel_rfl) (by kernel_rfl) (by kernel_rfl) (by kernel_rfl) (fun _ _ _ h => h) (Gives.value (by rfl) ?yA14) ?rA14
  case yA14 => (intro w' hSw; go_simp; try with_reducible rfl)
  (try simp only [Act.put, List.getElem_toArray, List.getElem_cons_zero, List.getElem_cons_succ, List.setIfInBounds_toArray, List.set_cons_zero, List.set_cons_succ])
  refine wpDet_take (.slice qb (n - (at_ + 1)) (c - (at_ + 1))) (Bl.stays w2) (fun W h => hX2.below h) (i := 15) rfl (by kernel_rfl) (by kernel_rfl) (by kernel_rfl) (by kernel_rfl) (fun _ _ _ h => h) (Gives.value (by rfl) ?yA15) ?rA15
  case yA15 => (intro w' hSw; go_simp; (try (intro hh; have := hh (by omega); omega)))
  (try simp only [Act.put, List.getElem_toArray, List.getElem_cons_zero, List.getElem_cons_succ, List.setIfInBounds_toArray, List.set_cons_zero, List.set_cons_succ])
  refine wpDet_ready (rs := [1]) (by kernel_rfl) (by simp) (AllDet.cons rfl (fun V hV K hK => ?_) AllDet.nil)
  rw [if_pos (by rfl)]
  refine wp_value (.slice (some ⟨V.heap.size, 0, none⟩) 0 0) (V.alloc (.cells #[] 77)) (by first | (go_simp; done) | (go_simp; rfl)) ?_
  have hba := below_alloc V (.cells #[] 77)
  have hO := OwI.empty V hV.size
  have hb5 := Bl.stays w2 V _ hV hba
  generalize (Value.slice (some ⟨V.heap.size, 0, none⟩) 0 0) = v0 at *
  refine hK.out (fun W => Bl w2 W ∧ OwI W w2.heap.size v0 []) _ _ (OwI.stays w2 v0 []) (fun _ W h => hX2.below h.1) ⟨hb5, hO⟩ ?_
  clear hK K hV hba hO hb5
  (try simp only [Act.put, List.getElem_toArray, List.getElem_cons_zero, List.getElem_cons_succ, List.setIfInBounds_toArray, List.set_cons_zero, List.set_cons_succ])
  refine wpDet_ready (rs := [8]) (by kernel_rfl) (by simp) (AllDet.cons rfl (fun V hV K hK => ?_) AllDet.nil)
  rw [if_pos (by rfl)]
  obtain ⟨v1, V1, hrun, hO1, hb1⟩ := run_appI 28 hV.2 ((hX2.below hV.1).rd.front hle) (Nat.zero_le _) (by omega) hV.1.size
  refine wp_app _ _ 28 rfl v0 (.slice (some ⟨gb, go, none⟩) at_ c) rfl rfl v1 V1 hrun ?_
  have hb5 : Bl w2 V1 := Below.trans hV.1 hb1
  refine hK.out (fun W => Bl w2 W ∧ OwI W w2.heap.size v1 ([] ++ its.take at_)) _ _ (OwI.stays w2 v1 _) (fun _ W h => hX2.below h.1) ⟨hb5, hO1⟩ ?_
  clear hK K hV hrun hO1 hb1 hb5
  (try simp only [Act.put, List.getElem_toArray, List.getElem_cons_zero, List.getElem_cons_succ, List.setIfInBounds_toArray, List.set_cons_zero, List.set_cons_succ])
  refine wpDet_ready (rs := [16]) (by kernel_rfl) (by simp) (AllDet.cons rfl (fun V hV K hK => ?_) AllDet.nil)
  rw [if_pos (by rfl)]
  obtain ⟨v2, V2, hrun, hO2, hb2⟩ := run_appI 28 hV.2 (hBK.below hV.1) hfl (by omega) hV.1.size
  refine wp_app _ _ 28 rfl v1 (.slice qb (n - (at_ + 1)) (c - (at_ + 1))) rfl rfl v2 V2 hrun ?_
  have hb5 : Bl w2 V2 := Below.trans hV.1 hb2
  refine hK.out (fun W => Bl w2 W ∧ OwI W w2.heap.size v2 (([] ++ its.take at_) ++ its.drop (at_ + 1))) _ _ (OwI.stays w2 v2 _) (fun _ W h => hX2.below h.1) ⟨hb5, hO2⟩ ?_
  clear hK K hV hrun hO2 hb2 hb5
  (try simp only [Act.put, List.getElem_toArray, List.getElem_cons_zero, List.getElem_cons_succ, List.setIfInBounds_toArray, List.set_cons_zero, List.set_cons_succ])
  refine wpDet_ready (rs := [17]) (by kernel_rfl) (by simp) (AllDet.cons rfl (fun V hV K hK => ?_) AllDet.nil)
  rw [if_pos (by rfl)]
  refine wp_value (.pointer (some ⟨gx, 0, none⟩)) V (by first | (go_simp; done) | (go_simp; rfl)) ?_
  refine hK.out (fun W => Bl w2 W ∧ OwI W w2.heap.size v2 (([] ++ its.take at_) ++ its.drop (at_ + 1))) _ _ (OwI.stays w2 v2 _) (fun _ W h => hX2.below h.1) hV ?_
  clear hK K hV
  (try simp only [Act.put, List.getElem_toArray, List.getElem_cons_zero, List.getElem_cons_succ, List.setIfInBounds_toArray, List.set_cons_zero, List.set_cons_succ])
  refine wpDet_ready (rs := [18]) (by kernel_rfl) (by simp) (AllDet.cons rfl (fun V hV K hK => ?_) AllDet.nil)
  rw [if_pos (by rfl)]
  refine wp_value (.pointer (some ⟨gx, 0, none⟩)) V (by first | (go_simp; done) | (go_simp; rfl)) ?_
  refine hK.out (fun W => Bl w2 W ∧ OwI W w2.heap.size v2 (([] ++ its.take at_) ++ its.drop (at_ + 1))) _ _ (OwI.stays w2 v2 _) (fun _ W h => hX2.below h.1) hV ?_
  clear hK K hV
  (try simp only [Act.put, List.getElem_toArray, List.getElem_cons_zero, List.getElem_cons_succ, List.setIfInBounds_toArray, List.set_cons_zero, List.set_cons_succ])
  refine wpDet_ready (rs := [19]) (by kernel_rfl) (by simp) (AllDet.cons rfl (fun V hV K hK => ?_) AllDet.nil)
  rw [if_pos (by rfl)]
  obtain ⟨q3, d3, rfl, hq3, hr3⟩ := hV.2.rd
  have hXV := hX2.below hV.1
  refine wp_store_slice _ _ _ rfl gx 0 q3 _ d3 _ rfl rfl sizeSlI hXV.c0 (hXV.blk.free 0) ?_
  have hz := hXV.put hr3 (fun a e _ => by have := hq3 a e; have := hX2.blk.lt; omega)
  have hez : Ex gx w2 (V.setCell ⟨gx, 0, none⟩ (.slice q3 (([] ++ its.take at_) ++ its.drop (at_ + 1)).length d3)) := (Ex.of_below hV.1).setCell 0 _
  refine hK.out (fun W => (∃ q m d, XB W gx q m d bs lost (([] ++ its.take at_) ++ its.drop (at_ + 1))) ∧ Ex gx w2 W) _ _ (fun W W' h hb => ⟨by obtain ⟨q, m, d, hx⟩ := h.1; exact ⟨q, m, d, hx.below hb⟩, h.2.trans (Ex.of_below hb)⟩) (no_lean (by kernel_rfl)) ⟨⟨_, _, _, hz⟩, hez⟩ ?_
  clear hK K hV hXV hz hez hr3 hq3
  (try simp only [Act.put, List.getElem_toArray, List.getElem_cons_zero, List.getElem_cons_succ, List.setIfInBounds_toArray, List.set_cons_zero, List.set_cons_succ])
  refine wpDet_done (by kernel_rfl) (fun W6 hW6 => ?_) _
  obtain ⟨hz6, hez6⟩ := hW6
  clear hX2 hBK
  obtain ⟨q6, m6, d6, hx6⟩ := hz6
  have sx := hx6.cs hX
  have sy := hx6.cs hY
  rw [HA.out] at sx
  rw [HB.out] at sy
  clear HA HB
  obtain ⟨l0, l1⟩ := (hA2.ex hez6 (by omega)).two
  have hE2 : Ex gx w w2 := Ex.of_below hb0
  generalize w.heap.size = gl at *
  have hXi : (X : Int) < 64 := by omega
  have hYi : (Y : Int) < 64 := by omega
  have HZ : Hid (∃ q m d, XB W6 gx q m d bs lost (([] ++ its.take at_) ++ its.drop (at_ + 1))) := ⟨_, _, _, hx6⟩
  clear hx6
  go_wp2_with fail
  have hS6 : Bl W6 W6.drew := (Below.refl _ _).drew
  refine wp_region_det [0, 1, 2, 3, 4, 5, 6, 7, 8, 9, 10, 11, 12, 13, 14] (fun W => (W.cell? ⟨gx, 1 + X, none⟩ = some (.bool sA) ∧ W.cell? ⟨gx, 1 + Y, none⟩ = some (.bool sB)) ∧ (W.cell? ⟨gl, 0, none⟩ = some (.int .i64 (X : Int)) ∧ W.cell? ⟨gl, 1, none⟩ = some (.int .i64 (Y : Int)))) (Bl W6) (by kernel_rfl) hS6 ?_
  refine wpDet_take ?vT0 (Bl.stays W6) (fun W h => ⟨⟨cell_below h sx, cell_below h sy⟩, ⟨cell_below h l0, cell_below h l1⟩⟩) (i := 0) rfl (by kernel_rfl) (by kernel_rfl) (by kernel_rfl) (by kernel_rfl) (fun _ _ _ h => h) (Gives.value (by rfl) ?yT0) ?rT0
  case yT0 => (intro w' hSw; go_simp; try with_reducible rfl)
  (try simp only [Act.put, List.getElem_toArray, List.getElem_cons_zero, List.getElem_cons_succ, List.setIfInBounds_toArray, List.set_cons_zero, List.set_cons_succ])
  refine wpDet_take ?vT1 (Bl.stays W6) (fun W h => ⟨⟨cell_below h sx, cell_below h sy⟩, ⟨cell_below h l0, cell_below h l1⟩⟩) (i := 1) rfl (by kernel_rfl) (by kernel_rfl) (by kernel_rfl) (by kernel_rfl) (fun _ _ _ h => h) (Gives.value (by rfl) ?yT1) ?rT1
  case yT1 => (intro w' hSw; go_simp; try with_reducible rfl)
  (try simp only [Act.put, List.getElem_toArray, List.getElem_cons_zero, List.getElem_cons_succ, List.setIfInBounds_toArray, List.set_cons_zero, List.set_cons_succ])
  refine wpDet_take ?vT2 (Bl.stays W6) (fun W h => ⟨⟨cell_below h sx, cell_below h sy⟩, ⟨cell_below h l0, cell_below h l1⟩⟩) (i := 2) rfl (by kernel_rfl) (by kernel_rfl) (by kernel_rfl) (by kernel_rfl) (fun _ _ _ h => h) (Gives.value (by rfl) ?yT2) ?rT2
  case yT2 => (intro w' hSw; have hz0 := hSw.2.1; go_simp; try with_reducible rfl)
  (try simp only [Act.put, List.getElem_toArray, List.getElem_cons_zero, List.getElem_cons_succ, List.setIfInBounds_toArray, List.set_cons_zero, List.set_cons_succ])
  refine wpDet_take ?vT3 (Bl.stays W6) (fun W h => ⟨⟨cell_below h sx, cell_below h sy⟩, ⟨cell_below h l0, cell_below h l1⟩⟩) (i := 3) rfl (by kernel_rfl) (by kernel_rfl) (by kernel_rfl) (by kernel_rfl) (fun _ _ _ h => h) (Gives.value (by rfl) ?yT3) ?rT3
  case yT3 => (intro w' hSw; go_simp; try with_reducible rfl)
  (try simp only [Act.put, List.getElem_toArray, List.getElem_cons_zero, List.getElem_cons_succ, List.setIfInBounds_toArray, List.set_cons_zero, List.set_cons_succ])
  refine wpDet_take ?vT4 (Bl.stays W6) (fun W h => ⟨⟨cell_below h sx, cell_below h sy⟩, ⟨cell_below h l0, cell_below h l1⟩⟩) (i := 4) rfl (by kernel_rfl) (by kernel_rfl) (by kernel_rfl) (by kernel_rfl) (fun _ _ _ h => h) (Gives.value (by rfl) ?yT4) ?rT4
  case yT4 => (intro w' hSw; go_simp; try with_reducible rfl)
  (try simp only [Act.put, List.getElem_toArray, List.getElem_cons_zero, List.getElem_cons_succ, List.setIfInBounds_toArray, List.set_cons_zero, List.set_cons_succ])
  refine wpDet_take ?vT5 (Bl.stays W6) (fun W h => ⟨⟨cell_below h sx, cell_below h sy⟩, ⟨cell_below h l0, cell_below h l1⟩⟩) (i := 5) rfl (by kernel_rfl) (by kernel_rfl) (by kernel_rfl) (by kernel_rfl) (fun _ _ _ h => h) (Gives.value (by rfl) ?yT5) ?rT5
  case yT5 => (intro w' hSw; go_simp; try with_reducible rfl)
  (try simp only [Act.put, List.getElem_toArray, List.getElem_cons_zero, List.getElem_cons_succ, List.setIfInBounds_toArray, List.set_cons_zero, List.set_cons_succ])
  refine wpDet_take ?vT6 (Bl.stays W6) (fun W h => ⟨⟨cell_below h sx, cell_below h sy⟩, ⟨cell_below h l0, cell_below h l1⟩⟩) (i := 6) rfl (by kernel_rfl) (by kernel_rfl) (by kernel_rfl) (by kernel_rfl) (fun _ _ _ h => h) (Gives.value (by rfl) ?yT6) ?rT6
  case yT6 => (intro w' hSw; have hz0 := hSw.1.1; go_simp; try with_reducible rfl)
  (try simp only [Act.put, List.getElem_toArray, List.getElem_cons_zero, List.getElem_cons_succ, List.setIfInBounds_toArray, List.set_cons_zero, List.set_cons_succ])
  refine wpDet_take ?vT7 (Bl.stays W6) (fun W h => ⟨⟨cell_below h sx, cell_below h sy⟩, ⟨cell_below h l0, cell_below h l1⟩⟩) (i := 7) rfl (by kernel_rfl) (by kernel_rfl) (by kernel_rfl) (by kernel_rfl) (fun _ _ _ h => h) (Gives.value (by rfl) ?yT7) ?rT7
  case yT7 => (intro w' hSw; go_simp; try with_reducible rfl)
  (try simp only [Act.put, List.getElem_toArray, List.getElem_cons_zero, List.getElem_cons_succ, List.setIfInBounds_toArray, List.set_cons_zero, List.set_cons_succ])
  refine wpDet_take ?vT8 (Bl.stays W6) (fun W h => ⟨⟨cell_below h sx, cell_below h sy⟩, ⟨cell_below h l0, cell_below h l1⟩⟩) (i := 8) rfl (by kernel_rfl) (by kernel_rfl) (by kernel_rfl) (by kernel_rfl) (fun _ _ _ h => h) (Gives.value (by rfl) ?yT8) ?rT8
  case yT8 => (intro w' hSw; go_simp; try with_reducible rfl)
  (try simp only [Act.put, List.getElem_toArray, List.getElem_cons_zero, List.getElem_cons_succ, List.setIfInBounds_toArray, List.set_cons_zero, List.set_cons_succ])
  refine wpDet_take ?vT9 (Bl.stays W6) (fun W h => ⟨⟨cell_below h sx, cell_below h sy⟩, ⟨cell_below h l0, cell_below h l1⟩⟩) (i := 9) rfl (by kernel_rfl) (by kernel_rfl) (by kernel_rfl) (by kernel_rfl) (fun _ _ _ h => h) (Gives.value (by rfl) ?yT9) ?rT9
  case yT9 => (intro w' hSw; have hz0 := hSw.2.2; go_simp; try with_reducible rfl)
  (try simp only [Act.put, List.getElem_toArray, List.getElem_cons_zero, List.getElem_cons_succ, List.setIfInBounds_toArray, List.set_cons_zero, List.set_cons_succ])
  refine wpDet_take ?vT10 (Bl.stays W6) (fun W h => ⟨⟨cell_below h sx, cell_below h sy⟩, ⟨cell_below h l0, cell_below h l1⟩⟩) (i := 10) rfl (by kernel_rfl) (by kernel_rfl) (by kernel_rfl) (by kernel_rfl) (fun _ _ _ h => h) (Gives.value (by rfl) ?yT10) ?rT10
  case yT10 => (intro w' hSw; go_simp; try with_reducible rfl)
  (try simp only [Act.put, List.getElem_toArray, List.getElem_cons_zero, List.getElem_cons_succ, List.setIfInBounds_toArray, List.set_cons_zero, List.set_cons_succ])
  refine wpDet_take ?vT11 (Bl.stays W6) (fun W h => ⟨⟨cell_below h sx, cell_below h sy⟩, ⟨cell_below h l0, cell_below h l1⟩⟩) (i := 11) rfl (by kernel_rfl) (by kernel_rfl) (by kernel_rfl) (by kernel_rfl) (fun _ _ _ h => h) (Gives.value (by rfl) ?yT11) ?rT11
  case yT11 => (intro w' hSw; go_simp; try with_reducible rfl)
  (try simp only [Act.put, List.getElem_toArray, List.getElem_cons_zero, List.getElem_cons_succ, List.setIfInBounds_toArray, List.set_cons_zero, List.set_cons_succ])
  refine wpDet_take ?vT12 (Bl.stays W6) (fun W h => ⟨⟨cell_below h sx, cell_below h sy⟩, ⟨cell_below h l0, cell_below h l1⟩⟩) (i := 12) rfl (by kernel_rfl) (by kernel_rfl) (by kernel_rfl) (by kernel_rfl) (fun _ _ _ h => h) (Gives.value (by rfl) ?yT12) ?rT12
  case yT12 => (intro w' hSw; go_simp; try with_reducible rfl)
  (try simp only [Act.put, List.getElem_toArray, List.getElem_cons_zero, List.getElem_cons_succ, List.setIfInBounds_toArray, List.set_cons_zero, List.set_cons_succ])
  refine wpDet_take ?vT13 (Bl.stays W6) (fun W h => ⟨⟨cell_below h sx, cell_below h sy⟩, ⟨cell_below h l0, cell_below h l1⟩⟩) (i := 13) rfl (by kernel_rfl) (by kernel_rfl) (by kernel_rfl) (by kernel_rfl) (fun _ _ _ h => h) (Gives.value (by rfl) ?yT13) ?rT13
  case yT13 => (intro w' hSw; have hz0 := hSw.1.2; go_simp; try with_reducible rfl)
  (try simp only [Act.put, List.getElem_toArray, List.getElem_cons_zero, List.getElem_cons_succ, List.setIfInBounds_toArray, List.set_cons_zero, List.set_cons_succ])
  refine wpDet_take ?vT14 (Bl.stays W6) (fun W h => ⟨⟨cell_below h sx, cell_below h sy⟩, ⟨cell_below h l0, cell_below h l1⟩⟩) (i := 14) rfl (by kernel_rfl) (by kernel_rfl) (by kernel_rfl) (by kernel_rfl) (fun _ _ _ h => h) (Gives.value (by rfl) ?yT14) ?rT14
  case yT14 => (intro w' hSw; go_simp; try with_reducible rfl)
  (try simp only [Act.put, List.getElem_toArray, List.getElem_cons_zero, List.getElem_cons_succ, List.setIfInBounds_toArray, List.set_cons_zero, List.set_cons_succ])
  refine wpDet_done (by kernel_rfl) (fun W7 hW7 => ?_) _
  have hE7 : Ex gx w W7 := (hE2.trans hez6).trans (Ex.of_below hW7)
  obtain ⟨q6, m6, d6, hx6⟩ := HZ.out
  have hz7 : ∃ q m d, XB W7 gx q m d bs lost (its.eraseIdx at_) := ⟨q6, m6, d6, by have hh := hx6.below hW7; rw [List.nil_append] at hh; rw [List.eraseIdx_eq_take_drop_succ]; exact hh⟩
  clear hx6 HZ
  cases sA with
  | true =>
    cases sB with
    | true =>
      have HV2 : Hid (VT = .tuple #[.string t.2.2, .bool true, .int .i64 0]) := HV.out.symm
      clear HV
      go_wp2_with fail
      go_ret3
      exact ⟨by rw [HV2.out]; rfl, hz7, hE7⟩
    | false =>
      have HV2 : Hid (VT = .tuple #[.string { data := #[] }, .bool false, .int .i64 0]) := HV.out.symm
      clear HV
      go_wp2_with fail
      go_ret3
      exact ⟨by rw [HV2.out]; rfl, hz7, hE7⟩
  | false =>
    cases sB with
    | true =>
      have HV2 : Hid (VT = .tuple #[.string { data := #[] }, .bool false, .int .i64 0]) := HV.out.symm
      clear HV
      go_wp2_with fail
      go_ret3
      exact ⟨by rw [HV2.out]; rfl, hz7, hE7⟩
    | false =>
      have HV2 : Hid (VT = .tuple #[.string t.2.2, .bool true, .int .i64 0]) := HV.out.symm
      clear HV
      go_wp2_with fail
      go_ret3
      exact ⟨by rw [HV2.out]; rfl, hz7, hE7⟩

end Go.Proofs.Ytmnipfdcbmamnaa.M
