/-
  Own text: what keeps a record from standing behind the others.
-/
import Derived.Test.YtnbgdkdnlfomeaaDoorBTop
import Derived.Test.YtnbgdkdnlfomeaaDoorBPur
import Derived.Test.YtnbgdkdnlfomeaaDoorBRt
namespace Go.Proofs.YtnbgdkdnlfomeaaDoor.M
open Go.ChangeShapes Go.WideShapes Go.ChangeAt Go.RowKit Go.ChangeMaps Go.MapKept Go.Maps Go.Shelf Go.Proofs
set_option linter.unusedSimpArgs false

/-- Room for sums, of the call's own. -/
def AZ (w : World) (g : Nat) (W : World) : Prop := Bl w W ∧ At 85 W g #[.int .i64 0, .int .i64 0, .map none, .int .i64 0, .int .i64 0, .int .i64 0, .int .i64 0, .int .i64 0, .int .i64 0, .int .i64 0, .int .i64 0, .int .i64 0, .int .i64 0, .int .i64 0, .int .i64 0] ∧ w.heap.size ≤ g

theorem AZ.stays (w : World) (g : Nat) : Stays (AZ w g) := fun W W' h hb => ⟨Bl.stays w W W' h.1 hb, At.below h.2.1 hb, h.2.2⟩

/-- Both. -/
structure MA (w : World) (b : Nat) (cs : List Ce) (g : Nat) (W : World) : Prop where
  mw : MW w b cs W
  at5 : At 85 W g #[.int .i64 0, .int .i64 0, .map none, .int .i64 0, .int .i64 0, .int .i64 0, .int .i64 0, .int .i64 0, .int .i64 0, .int .i64 0, .int .i64 0, .int .i64 0, .int .i64 0, .int .i64 0, .int .i64 0]
  hg : w.heap.size ≤ g

theorem MA.stays (w : World) (b : Nat) (cs : List Ce) (g : Nat) : Stays (MA w b cs g) := fun W W' h hb => ⟨MW.stays w b cs W W' h.mw hb, At.below h.at5 hb, h.hg⟩

theorem MW.alloc' {w : World} {b : Nat} {cs : List Ce} {W : World} (h : MW w b cs W) : MA w b cs W.heap.size (W.alloc (.cells #[.int .i64 0, .int .i64 0, .map none, .int .i64 0, .int .i64 0, .int .i64 0, .int .i64 0, .int .i64 0, .int .i64 0, .int .i64 0, .int .i64 0, .int .i64 0, .int .i64 0, .int .i64 0, .int .i64 0] 85)) :=
  ⟨MW.stays w b cs W _ h (below_alloc' _ _), At.new _ _ _, (Bl.out h.1).size⟩

/-- Sums in a block of the call's own. -/
structure ST (w : World) (g b : Nat) (m : Sm) (W : World) : Prop where
  bl : Bl w W
  sm : SumAt W g m b
  mp : MC W b m.cs
  hg : w.heap.size ≤ g

theorem ST.stays (w : World) (g b : Nat) (m : Sm) : Stays (ST w g b m) := fun W W' h hb => ⟨Bl.stays w W W' h.bl hb, At.below h.sm hb, h.mp.below hb, h.hg⟩

theorem MA.put {w : World} {b g : Nat} {m : Sm} {W : World} (h : MA w b m.cs g W) : ST w g b m (W.setRow g #[.int .i64 m.ix, .int .i64 m.ep, .map (some b), .int .i64 (m.d 0).c, .int .i64 (m.d 0).q, .int .i64 (m.d 0).v, .int .i64 (m.d 1).c, .int .i64 (m.d 1).q, .int .i64 (m.d 1).v, .int .i64 (m.d 2).c, .int .i64 (m.d 2).q, .int .i64 (m.d 2).v, .int .i64 (m.d 3).c, .int .i64 (m.d 3).q, .int .i64 (m.d 3).v]) := by
  have hne : g ≠ b := by
    rintro rfl
    obtain ⟨es, ck, h2, _⟩ := h.mw.2.1.ex
    have h1 := h.at5
    unfold At at h1
    rw [h2] at h1
    cases h1
  refine ⟨(Bl.out h.mw.1).trans (below_setRow W g _ h.hg), h.at5.row _, h.mw.2.1.kept ?_, h.hg⟩
  unfold World.setRow
  rw [Array.getElem?_modify, if_neg hne]

/-- The ways of a region meet again: the frame is one of these. -/
def Meet2 (A : Nat → Nat → Act) (R : Nat → Nat → World → Prop) : Exit → Act → World → Prop
  | .normal, a, w => ∃ x y, a = A x y ∧ R x y w
  | _, _, _ => False

theorem wp_meet2 {P : Program} {c : Code} {Q : Exit → Act → World → Prop} {a : Act} {w : World} {A : Nat → Nat → Act} {R : Nat → Nat → World → Prop} (h : c.wp P (Meet2 A R) a w) (k : ∀ x y w', R x y w' → Q .normal (A x y) w') : c.wp P Q a w :=
  Code.wp_mono (fun e a2 w2 hm => by
    cases e with
    | normal => obtain ⟨x, y, rfl, hR⟩ := hm; exact k x y w2 hR
    | _ => exact absurd hm id) h

/-- What keeps a record from standing behind sums. -/
def Sm.stands (m : Sm) (x : Rc) : Int :=
  if x.ix ≠ m.ix + 1 then 90 else if 1099511627776 < x.ix then 90
  else if x.ep < max 1 m.ep then 150 else if 1099511627776 < x.ep then 150
  else if rightK x.k x.s ≠ 0 then rightK x.k x.s
  else if isRq x.c x.q = false then 1
  else if x.q ≤ (m.d x.c.toNat).q then 153
  else if x.v ≠ ((lookC m.cs x.k).getD .z0).v + 1 then 90
  else if (lookC m.cs x.k).isSome = false ∧ 12 ≤ m.cs.length then 7 else 0

set_option maxRecDepth 20000 in
set_option maxHeartbeats 4000000 in
theorem stands_any {w : World} {g b : Nat} {p : Option Addr} {n c : Nat} {s : Sh} (h : ShB w g b p n c s) (x : Rc) (hk : x.k < 18446744073709551616) (hxs : x.s.size ≤ 9223372036854775807) (hT : Tabs w) (hbnd : -9223372036854775808 ≤ (s.low.adds s.tail).ix + 1 ∧ (s.low.adds s.tail).ix + 1 ≤ 9223372036854775807) (hbn2 : -9223372036854775808 ≤ ((lookC (s.low.adds s.tail).cs x.k).getD .z0).v + 1 ∧ ((lookC (s.low.adds s.tail).cs x.k).getD .z0).v + 1 ≤ 9223372036854775807) :
    Calls Tryd.prog 59 #[.pointer (some ⟨g, 0, none⟩), .agg #[.int .i64 x.ix, .int .i64 x.ep, .int .u8 (bt x.k 0), .int .u8 (bt x.k 1), .int .u8 (bt x.k 2), .int .u8 (bt x.k 3), .int .u8 (bt x.k 4), .int .u8 (bt x.k 5), .int .u8 (bt x.k 6), .int .u8 (bt x.k 7), .int .i64 x.v, .string x.s, .int .i64 x.c, .int .i64 x.q]] w fun e w' => e = .returned (.int .i64 ((s.low.adds s.tail).stands x)) ∧ Below w.heap.size w w' := by
  have hb0 := below_alloc' w (.cells #[.int .i64 x.ix, .int .i64 x.ep, .int .u8 (bt x.k 0), .int .u8 (bt x.k 1), .int .u8 (bt x.k 2), .int .u8 (bt x.k 3), .int .u8 (bt x.k 4), .int .u8 (bt x.k 5), .int .u8 (bt x.k 6), .int .u8 (bt x.k 7), .int .i64 x.v, .string x.s, .int .i64 x.c, .int .i64 x.q] 64)
  have hX : At 64 (w.alloc (.cells #[.int .i64 x.ix, .int .i64 x.ep, .int .u8 (bt x.k 0), .int .u8 (bt x.k 1), .int .u8 (bt x.k 2), .int .u8 (bt x.k 3), .int .u8 (bt x.k 4), .int .u8 (bt x.k 5), .int .u8 (bt x.k 6), .int .u8 (bt x.k 7), .int .i64 x.v, .string x.s, .int .i64 x.c, .int .i64 x.q] 64)) w.heap.size #[.int .i64 x.ix, .int .i64 x.ep, .int .u8 (bt x.k 0), .int .u8 (bt x.k 1), .int .u8 (bt x.k 2), .int .u8 (bt x.k 3), .int .u8 (bt x.k 4), .int .u8 (bt x.k 5), .int .u8 (bt x.k 6), .int .u8 (bt x.k 7), .int .i64 x.v, .string x.s, .int .i64 x.c, .int .i64 x.q] := At.new _ w _
  have hSh := h.below hb0
  have hln := h.len
  have hfw := h.inv.few
  have hT0 := hT.up hb0
  clear h hT
  generalize hrr : (s.low.adds s.tail).stands x = r
  have HR0 : Hid ((s.low.adds s.tail).stands x = r) := hrr
  clear hrr
  go_enter Tryd.func59, Tryd.ntmps59
  go_wp2_with fail
  generalize (w.alloc (.cells #[.int .i64 x.ix, .int .i64 x.ep, .int .u8 (bt x.k 0), .int .u8 (bt x.k 1), .int .u8 (bt x.k 2), .int .u8 (bt x.k 3), .int .u8 (bt x.k 4), .int .u8 (bt x.k 5), .int .u8 (bt x.k 6), .int .u8 (bt x.k 7), .int .i64 x.v, .string x.s, .int .i64 x.c, .int .i64 x.q] 64)) = V0 at *
  have hgx : w.heap.size < V0.heap.size := At.lt hX
  have hS0 : Bl V0 V0.drew := (Below.refl _ _).drew
  apply wp_meet2 (R := fun g5 b7 W => ST V0 g5 b7 (s.low.adds s.tail) W)
  · refine wp_region_det [0, 1, 2, 3, 4, 5, 6, 7] (Bl V0) (Bl V0) (by kernel_rfl) hS0 ?_
    refine wpDet_take ?vW0 (Bl.stays V0) (fun _ h => h) (i := 0) rfl (by kernel_rfl) (by kernel_rfl) (by kernel_rfl) (by kernel_rfl) (fun _ _ _ h => h) (Gives.value (by rfl) ?yW0) ?rW0
    case yW0 => (intro w' hSw; (try dsimp only at hSw); go_simp; try with_reducible rfl)
    (try simp only [Act.put, List.getElem_toArray, List.getElem_cons_zero, List.getElem_cons_succ, List.setIfInBounds_toArray, List.set_cons_zero, List.set_cons_succ])
    refine wpDet_take ?vW1 (Bl.stays V0) (fun _ h => h) (i := 1) rfl (by kernel_rfl) (by kernel_rfl) (by kernel_rfl) (by kernel_rfl) (fun _ _ _ h => h) (Gives.value (by rfl) ?yW1) ?rW1
    case yW1 => (intro w' hSw; (try dsimp only at hSw); go_simp; try with_reducible rfl)
    (try simp only [Act.put, List.getElem_toArray, List.getElem_cons_zero, List.getElem_cons_succ, List.setIfInBounds_toArray, List.set_cons_zero, List.set_cons_succ])
    refine wpDet_take ?vW2 (Bl.stays V0) (fun _ h => h) (i := 2) rfl (by kernel_rfl) (by kernel_rfl) (by kernel_rfl) (by kernel_rfl) (fun _ _ _ h => h) (Gives.value (by rfl) ?yW2) ?rW2
    case yW2 => (intro w' hSw; (try dsimp only at hSw); go_simp; try with_reducible rfl)
    (try simp only [Act.put, List.getElem_toArray, List.getElem_cons_zero, List.getElem_cons_succ, List.setIfInBounds_toArray, List.set_cons_zero, List.set_cons_succ])
    refine wpDet_take ?vW3 (Bl.stays V0) (fun _ h => h) (i := 3) rfl (by kernel_rfl) (by kernel_rfl) (by kernel_rfl) (by kernel_rfl) (fun _ _ _ h => h) (Gives.value (by rfl) ?yW3) ?rW3
    case yW3 => (intro w' hSw; obtain ⟨⟨zz0, zz1, zz2, zz3, zz4, zz5, zz6, zz7, zz8, zz9, zz10, zz11, zz12, zz13, zz14⟩, zz15, zz16⟩ := (hSh.below (show Below V0.heap.size V0 w' from hSw)).cells; (try dsimp only at hSw); go_simp; try with_reducible rfl)
    (try simp only [Act.put, List.getElem_toArray, List.getElem_cons_zero, List.getElem_cons_succ, List.setIfInBounds_toArray, List.set_cons_zero, List.set_cons_succ])
    refine wpDet_take ?vW4 (Bl.stays V0) (fun _ h => h) (i := 4) rfl (by kernel_rfl) (by kernel_rfl) (by kernel_rfl) (by kernel_rfl) (fun _ _ _ h => h) (Gives.value (by rfl) ?yW4) ?rW4
    case yW4 => (intro w' hSw; (try dsimp only at hSw); go_simp; try with_reducible rfl)
    (try simp only [Act.put, List.getElem_toArray, List.getElem_cons_zero, List.getElem_cons_succ, List.setIfInBounds_toArray, List.set_cons_zero, List.set_cons_succ])
    refine wpDet_take ?vW5 (Bl.stays V0) (fun _ h => h) (i := 5) rfl (by kernel_rfl) (by kernel_rfl) (by kernel_rfl) (by kernel_rfl) (fun _ _ _ h => h) (Gives.value (by rfl) ?yW5) ?rW5
    case yW5 => (intro w' hSw; (try dsimp only at hSw); go_simp; try with_reducible rfl)
    (try simp only [Act.put, List.getElem_toArray, List.getElem_cons_zero, List.getElem_cons_succ, List.setIfInBounds_toArray, List.set_cons_zero, List.set_cons_succ])
    refine wpDet_take ?vW6 (Bl.stays V0) (fun _ h => h) (i := 6) rfl (by kernel_rfl) (by kernel_rfl) (by kernel_rfl) (by kernel_rfl) (fun _ _ _ h => h) (Gives.value (by rfl) ?yW6) ?rW6
    case yW6 => (intro w' hSw; (try dsimp only at hSw); go_simp; try with_reducible rfl)
    (try simp only [Act.put, List.getElem_toArray, List.getElem_cons_zero, List.getElem_cons_succ, List.setIfInBounds_toArray, List.set_cons_zero, List.set_cons_succ])
    refine wpDet_take ?vW7 (Bl.stays V0) (fun _ h => h) (i := 7) rfl (by kernel_rfl) (by kernel_rfl) (by kernel_rfl) (by kernel_rfl) (fun _ _ _ h => h) (Gives.value (by rfl) ?yW7) ?rW7
    case yW7 => (intro w' hSw; obtain ⟨⟨zz0, zz1, zz2, zz3, zz4, zz5, zz6, zz7, zz8, zz9, zz10, zz11, zz12, zz13, zz14⟩, zz15, zz16⟩ := (hSh.below (show Below V0.heap.size V0 w' from hSw)).cells; (try dsimp only at hSw); go_simp; try with_reducible rfl)
    (try simp only [Act.put, List.getElem_toArray, List.getElem_cons_zero, List.getElem_cons_succ, List.setIfInBounds_toArray, List.set_cons_zero, List.set_cons_succ])
    refine wpDet_ready (rs := [8, 9]) (by kernel_rfl) (by simp) (AllDet.cons rfl (fun V hV K hK => ?_) (AllDet.cons rfl (fun V hV K hK => ?_) AllDet.nil))
    · rw [if_pos (by rfl)]
      have hbV := Bl.out hV
      have hC := with_any s.low b p n c s.tail V (hSh.mp.below hbV) (hSh.tl.rd.below hbV) hSh.inv.ok (by omega)
      refine wp_enterX 55 #[.agg #[.int .i64 s.low.ix, .int .i64 s.low.ep, .map (some b), .int .i64 (s.low.d 0).c, .int .i64 (s.low.d 0).q, .int .i64 (s.low.d 0).v, .int .i64 (s.low.d 1).c, .int .i64 (s.low.d 1).q, .int .i64 (s.low.d 1).v, .int .i64 (s.low.d 2).c, .int .i64 (s.low.d 2).q, .int .i64 (s.low.d 2).v, .int .i64 (s.low.d 3).c, .int .i64 (s.low.d 3).q, .int .i64 (s.low.d 3).v], .slice p n c] (by first | (go_simp; done) | (go_simp; rfl)) (fun x W => ∃ b', x = .agg #[.int .i64 (s.low.adds s.tail).ix, .int .i64 (s.low.adds s.tail).ep, .map (some b'), .int .i64 ((s.low.adds s.tail).d 0).c, .int .i64 ((s.low.adds s.tail).d 0).q, .int .i64 ((s.low.adds s.tail).d 0).v, .int .i64 ((s.low.adds s.tail).d 1).c, .int .i64 ((s.low.adds s.tail).d 1).q, .int .i64 ((s.low.adds s.tail).d 1).v, .int .i64 ((s.low.adds s.tail).d 2).c, .int .i64 ((s.low.adds s.tail).d 2).q, .int .i64 ((s.low.adds s.tail).d 2).v, .int .i64 ((s.low.adds s.tail).d 3).c, .int .i64 ((s.low.adds s.tail).d 3).q, .int .i64 ((s.low.adds s.tail).d 3).v] ∧ MC W b' (s.low.adds s.tail).cs ∧ V.heap.size ≤ b' ∧ Below V.heap.size V W) (hC.mono fun r w' ⟨b', h1, h2, h3, h4⟩ => ⟨_, h1, b', rfl, h2, h3, h4⟩) ?_
      rintro x7 V7 ⟨b7, rfl, hm7, hb7, hbl7⟩
      have hz7 : MW V0 b7 (s.low.adds s.tail).cs V7 := ⟨Bl.stays V0 V _ hV hbl7, hm7, Nat.le_trans hbV.size hb7⟩
      refine hK.out (MW V0 b7 (s.low.adds s.tail).cs) _ _ (MW.stays _ _ _) (fun _ _ h => h.1) hz7 ?_
      clear hK K hV hC hbl7 hm7 hz7 hbV hb7
      (try simp only [Act.put, List.getElem_toArray, List.getElem_cons_zero, List.getElem_cons_succ, List.setIfInBounds_toArray, List.set_cons_zero, List.set_cons_succ])
      refine wpDet_ready (rs := [9]) (by kernel_rfl) (by simp) (AllDet.cons rfl (fun V hV K hK => ?_) AllDet.nil)
      rw [if_pos (by rfl)]
      refine wp_value (.pointer (some ⟨V.heap.size, 0, none⟩)) (V.alloc (.cells #[.int .i64 0, .int .i64 0, .map none, .int .i64 0, .int .i64 0, .int .i64 0, .int .i64 0, .int .i64 0, .int .i64 0, .int .i64 0, .int .i64 0, .int .i64 0, .int .i64 0, .int .i64 0, .int .i64 0] 85)) (by first | (go_simp; done) | (go_simp; rfl)) ?_
      have hz7 : MA V0 b7 (s.low.adds s.tail).cs V.heap.size (V.alloc (.cells #[.int .i64 0, .int .i64 0, .map none, .int .i64 0, .int .i64 0, .int .i64 0, .int .i64 0, .int .i64 0, .int .i64 0, .int .i64 0, .int .i64 0, .int .i64 0, .int .i64 0, .int .i64 0, .int .i64 0] 85)) := MW.alloc' hV
      refine hK.out (MA V0 b7 (s.low.adds s.tail).cs V.heap.size) _ _ (MA.stays _ _ _ _) (fun _ _ h => h.mw.1) hz7 ?_
      clear hK hz7
      obtain ⟨g5, hg5⟩ : ∃ g5, g5 = V.heap.size := ⟨_, rfl⟩
      rw [← hg5]
      clear hV hg5
      (try simp only [Act.put, List.getElem_toArray, List.getElem_cons_zero, List.getElem_cons_succ, List.setIfInBounds_toArray, List.set_cons_zero, List.set_cons_succ])
      refine wpDet_ready (rs := [10]) (by kernel_rfl) (by simp) (AllDet.cons rfl (fun V hV K hK => ?_) AllDet.nil)
      rw [if_pos (by rfl)]
      refine wp_store_row 85 _ _ rfl g5 #[.int .i64 (s.low.adds s.tail).ix, .int .i64 (s.low.adds s.tail).ep, .map (some b7), .int .i64 ((s.low.adds s.tail).d 0).c, .int .i64 ((s.low.adds s.tail).d 0).q, .int .i64 ((s.low.adds s.tail).d 0).v, .int .i64 ((s.low.adds s.tail).d 1).c, .int .i64 ((s.low.adds s.tail).d 1).q, .int .i64 ((s.low.adds s.tail).d 1).v, .int .i64 ((s.low.adds s.tail).d 2).c, .int .i64 ((s.low.adds s.tail).d 2).q, .int .i64 ((s.low.adds s.tail).d 2).v, .int .i64 ((s.low.adds s.tail).d 3).c, .int .i64 ((s.low.adds s.tail).d 3).q, .int .i64 ((s.low.adds s.tail).d 3).v] rfl rfl _ _ hV.at5 infoSm rfl oneSm ?_
      have hz9 := hV.put
      refine hK.out (ST V0 g5 b7 (s.low.adds s.tail)) _ _ (ST.stays _ _ _ _) (fun _ _ h => h.bl) hz9 ?_
      clear hK K hV hz9
      (try simp only [Act.put, List.getElem_toArray, List.getElem_cons_zero, List.getElem_cons_succ, List.setIfInBounds_toArray, List.set_cons_zero, List.set_cons_succ])
      refine wpDet_done (by kernel_rfl) (fun W9 hV => ?_) _
      exact ⟨g5, b7, rfl, hV⟩
    · rw [if_pos (by rfl)]
      refine wp_value (.pointer (some ⟨V.heap.size, 0, none⟩)) (V.alloc (.cells #[.int .i64 0, .int .i64 0, .map none, .int .i64 0, .int .i64 0, .int .i64 0, .int .i64 0, .int .i64 0, .int .i64 0, .int .i64 0, .int .i64 0, .int .i64 0, .int .i64 0, .int .i64 0, .int .i64 0] 85)) (by first | (go_simp; done) | (go_simp; rfl)) ?_
      have hz7 : AZ V0 V.heap.size (V.alloc (.cells #[.int .i64 0, .int .i64 0, .map none, .int .i64 0, .int .i64 0, .int .i64 0, .int .i64 0, .int .i64 0, .int .i64 0, .int .i64 0, .int .i64 0, .int .i64 0, .int .i64 0, .int .i64 0, .int .i64 0] 85)) := ⟨Bl.stays V0 V _ hV (below_alloc' _ _), At.new _ _ _, (Bl.out hV).size⟩
      refine hK.out (AZ V0 V.heap.size) _ _ (AZ.stays _ _) (fun _ _ h => h.1) hz7 ?_
      clear hK hz7
      obtain ⟨g5, hg5⟩ : ∃ g5, g5 = V.heap.size := ⟨_, rfl⟩
      rw [← hg5]
      clear hV hg5
      (try simp only [Act.put, List.getElem_toArray, List.getElem_cons_zero, List.getElem_cons_succ, List.setIfInBounds_toArray, List.set_cons_zero, List.set_cons_succ])
      refine wpDet_ready (rs := [8]) (by kernel_rfl) (by simp) (AllDet.cons rfl (fun V hV K hK => ?_) AllDet.nil)
      rw [if_pos (by rfl)]
      have hbV := Bl.out hV.1
      have hC := with_any s.low b p n c s.tail V (hSh.mp.below hbV) (hSh.tl.rd.below hbV) hSh.inv.ok (by omega)
      refine wp_enterX 55 #[.agg #[.int .i64 s.low.ix, .int .i64 s.low.ep, .map (some b), .int .i64 (s.low.d 0).c, .int .i64 (s.low.d 0).q, .int .i64 (s.low.d 0).v, .int .i64 (s.low.d 1).c, .int .i64 (s.low.d 1).q, .int .i64 (s.low.d 1).v, .int .i64 (s.low.d 2).c, .int .i64 (s.low.d 2).q, .int .i64 (s.low.d 2).v, .int .i64 (s.low.d 3).c, .int .i64 (s.low.d 3).q, .int .i64 (s.low.d 3).v], .slice p n c] (by first | (go_simp; done) | (go_simp; rfl)) (fun x W => ∃ b', x = .agg #[.int .i64 (s.low.adds s.tail).ix, .int .i64 (s.low.adds s.tail).ep, .map (some b'), .int .i64 ((s.low.adds s.tail).d 0).c, .int .i64 ((s.low.adds s.tail).d 0).q, .int .i64 ((s.low.adds s.tail).d 0).v, .int .i64 ((s.low.adds s.tail).d 1).c, .int .i64 ((s.low.adds s.tail).d 1).q, .int .i64 ((s.low.adds s.tail).d 1).v, .int .i64 ((s.low.adds s.tail).d 2).c, .int .i64 ((s.low.adds s.tail).d 2).q, .int .i64 ((s.low.adds s.tail).d 2).v, .int .i64 ((s.low.adds s.tail).d 3).c, .int .i64 ((s.low.adds s.tail).d 3).q, .int .i64 ((s.low.adds s.tail).d 3).v] ∧ MC W b' (s.low.adds s.tail).cs ∧ V.heap.size ≤ b' ∧ Below V.heap.size V W) (hC.mono fun r w' ⟨b', h1, h2, h3, h4⟩ => ⟨_, h1, b', rfl, h2, h3, h4⟩) ?_
      rintro x7 V7 ⟨b7, rfl, hm7, hb7, hbl7⟩
      have hz7 : MA V0 b7 (s.low.adds s.tail).cs g5 V7 := ⟨⟨Bl.stays V0 V _ hV.1 hbl7, hm7, Nat.le_trans hbV.size hb7⟩, At.below hV.2.1 hbl7, hV.2.2⟩
      refine hK.out (MA V0 b7 (s.low.adds s.tail).cs g5) _ _ (MA.stays _ _ _ _) (fun _ _ h => h.mw.1) hz7 ?_
      clear hK K hV hC hbl7 hm7 hz7 hbV hb7
      (try simp only [Act.put, List.getElem_toArray, List.getElem_cons_zero, List.getElem_cons_succ, List.setIfInBounds_toArray, List.set_cons_zero, List.set_cons_succ])
      refine wpDet_ready (rs := [10]) (by kernel_rfl) (by simp) (AllDet.cons rfl (fun V hV K hK => ?_) AllDet.nil)
      rw [if_pos (by rfl)]
      refine wp_store_row 85 _ _ rfl g5 #[.int .i64 (s.low.adds s.tail).ix, .int .i64 (s.low.adds s.tail).ep, .map (some b7), .int .i64 ((s.low.adds s.tail).d 0).c, .int .i64 ((s.low.adds s.tail).d 0).q, .int .i64 ((s.low.adds s.tail).d 0).v, .int .i64 ((s.low.adds s.tail).d 1).c, .int .i64 ((s.low.adds s.tail).d 1).q, .int .i64 ((s.low.adds s.tail).d 1).v, .int .i64 ((s.low.adds s.tail).d 2).c, .int .i64 ((s.low.adds s.tail).d 2).q, .int .i64 ((s.low.adds s.tail).d 2).v, .int .i64 ((s.low.adds s.tail).d 3).c, .int .i64 ((s.low.adds s.tail).d 3).q, .int .i64 ((s.low.adds s.tail).d 3).v] rfl rfl _ _ hV.at5 infoSm rfl oneSm ?_
      have hz9 := hV.put
      refine hK.out (ST V0 g5 b7 (s.low.adds s.tail)) _ _ (ST.stays _ _ _ _) (fun _ _ h => h.bl) hz9 ?_
      clear hK K hV hz9
      (try simp only [Act.put, List.getElem_toArray, List.getElem_cons_zero, List.getElem_cons_succ, List.setIfInBounds_toArray, List.set_cons_zero, List.set_cons_succ])
      refine wpDet_done (by kernel_rfl) (fun W9 hV => ?_) _
      exact ⟨g5, b7, rfl, hV⟩
  intro g5 b7 W1 hW1
  have hX1 := At.below hX (Bl.out hW1.bl)
  have hb1 := hb0.trans ((Bl.out hW1.bl).mono (by omega))
  have hT1 := hT0.up (Bl.out hW1.bl)
  obtain ⟨hbl1, hsm1, hmp1, hg5⟩ := hW1
  clear hSh hX hS0 hbl1 hT0
  generalize (s.low.adds s.tail) = m at *
  obtain ⟨x0, x1, x2, x3, x4, x5, x6, x7, x8, x9, x10, x11, x12, x13⟩ := rec_box hX1
  obtain ⟨m0, m1, m2, _⟩ := hsm1.cells
  have hw1 : wrap64 (m.ix + 1) = m.ix + 1 := by unfold wrap64; omega
  have hR1 := right_any x.k x.s hxs W1 hT1
  have HS : Hid (r = if x.ix ≠ m.ix + 1 then 90 else if 1099511627776 < x.ix then 90
    else if x.ep < max 1 m.ep then 150 else if 1099511627776 < x.ep then 150
    else if rightK x.k x.s ≠ 0 then rightK x.k x.s
    else if isRq x.c x.q = false then 1
    else if x.q ≤ (m.d x.c.toNat).q then 153
    else if x.v ≠ ((lookC m.cs x.k).getD .z0).v + 1 then 90
    else if (lookC m.cs x.k).isSome = false ∧ 12 ≤ m.cs.length then 7 else 0) := HR0.out.symm
  clear HR0
  by_cases c1 : x.ix = m.ix + 1
  · have HS1 : Hid (r = if 1099511627776 < x.ix then 90
      else if x.ep < max 1 m.ep then 150 else if 1099511627776 < x.ep then 150
      else if rightK x.k x.s ≠ 0 then rightK x.k x.s
      else if isRq x.c x.q = false then 1
      else if x.q ≤ (m.d x.c.toNat).q then 153
      else if x.v ≠ ((lookC m.cs x.k).getD .z0).v + 1 then 90
      else if (lookC m.cs x.k).isSome = false ∧ 12 ≤ m.cs.length then 7 else 0) := by unfold Hid; rw [HS.out, if_neg (fun h => h c1)]
    clear HS
    rw [c1] at x0
    have hw2 : wrap64 (m.ix + 1) = m.ix + 1 := hw1
    rw [c1] at HS1
    have hix := c1
    clear c1
    have HIX : Hid (x.ix = m.ix + 1) := hix
    clear hix
    by_cases c2 : 1099511627776 < m.ix + 1
    · have HN : Hid (r = 90) := by unfold Hid; rw [HS1.out, if_pos c2]
      clear HS1 hR1
      go_wp2_with fail
      go_ret
      exact ⟨ret_int HN.out.symm, hb1⟩
    · by_cases c3 : x.ep < max 1 m.ep
      · have HN : Hid (r = 150) := by unfold Hid; rw [HS1.out, if_neg c2, if_pos c3]
        clear HS1 hR1
        go_wp2_with fail
        go_ret
        exact ⟨ret_int HN.out.symm, hb1⟩
      · by_cases c4 : 1099511627776 < x.ep
        · have HN : Hid (r = 150) := by unfold Hid; rw [HS1.out, if_neg c2, if_neg c3, if_pos c4]
          clear HS1 hR1
          go_wp2_with fail
          go_ret
          exact ⟨ret_int HN.out.symm, hb1⟩
        · have HS2 : Hid (r = if rightK x.k x.s ≠ 0 then rightK x.k x.s
            else if isRq x.c x.q = false then 1
            else if x.q ≤ (m.d x.c.toNat).q then 153
            else if x.v ≠ ((lookC m.cs x.k).getD .z0).v + 1 then 90
            else if (lookC m.cs x.k).isSome = false ∧ 12 ≤ m.cs.length then 7 else 0) := by unfold Hid; rw [HS1.out, if_neg c2, if_neg c3, if_neg c4]
          clear HS1
          go_wp2_with fail
          refine hR1.mono ?_
          rintro e W2 ⟨rfl, hb2⟩
          have hbb2 := hb1.trans (hb2.mono hb1.size)
          have hX2 := At.below hX1 hb2
          have hsm2 : SumAt W2 g5 m b7 := At.below hsm1 hb2
          have hmp2 := hmp1.below hb2
          clear hR1 x0 x1 x2 x3 x4 x5 x6 x7 x8 x9 x10 x11 x12 x13 m0 m1 m2 hX1 hsm1 hmp1 hT1 hb1 hb2 c2 c3 c4
          obtain ⟨rk, hrk⟩ : ∃ rk, rk = rightK x.k x.s := ⟨_, rfl⟩
          rw [← hrk] at HS2 ⊢
          clear hrk
          by_cases c5 : rk = 0
          · subst c5
            have HS3 : Hid (r = if isRq x.c x.q = false then 1
              else if x.q ≤ (m.d x.c.toNat).q then 153
              else if x.v ≠ ((lookC m.cs x.k).getD .z0).v + 1 then 90
              else if (lookC m.cs x.k).isSome = false ∧ 12 ≤ m.cs.length then 7 else 0) := by unfold Hid; rw [HS2.out, if_neg (fun h => h rfl)]
            clear HS2
            obtain ⟨x0, x1, x2, x3, x4, x5, x6, x7, x8, x9, x10, x11, x12, x13⟩ := rec_box hX2
            have m2 := hsm2.cells.2.2.1
            have hlk : (Instr.lookup 80 (.map (some b7)) (.agg #[.int .u8 (bt (x.k) 0), .int .u8 (bt (x.k) 1), .int .u8 (bt (x.k) 2), .int .u8 (bt (x.k) 3), .int .u8 (bt (x.k) 4), .int .u8 (bt (x.k) 5), .int .u8 (bt (x.k) 6), .int .u8 (bt (x.k) 7)]) true).run Tryd.prog W2 = .ok (.tuple #[.agg #[.int .u8 (bt ((lookC m.cs x.k).getD .z0).k 0), .int .u8 (bt ((lookC m.cs x.k).getD .z0).k 1), .int .u8 (bt ((lookC m.cs x.k).getD .z0).k 2), .int .u8 (bt ((lookC m.cs x.k).getD .z0).k 3), .int .u8 (bt ((lookC m.cs x.k).getD .z0).k 4), .int .u8 (bt ((lookC m.cs x.k).getD .z0).k 5), .int .u8 (bt ((lookC m.cs x.k).getD .z0).k 6), .int .u8 (bt ((lookC m.cs x.k).getD .z0).k 7), .int .i64 ((lookC m.cs x.k).getD .z0).v, .string ((lookC m.cs x.k).getD .z0).s], .bool (lookC m.cs x.k).isSome]) W2 := hmp2.lookOk hk
            generalize hci : (lookC m.cs x.k).isSome = ci at *
            generalize hcc : (lookC m.cs x.k).getD .z0 = cc at *
            have hba := below_alloc' W2 (.cells #[.int .u8 (bt cc.k 0), .int .u8 (bt cc.k 1), .int .u8 (bt cc.k 2), .int .u8 (bt cc.k 3), .int .u8 (bt cc.k 4), .int .u8 (bt cc.k 5), .int .u8 (bt cc.k 6), .int .u8 (bt cc.k 7), .int .i64 cc.v, .string cc.s] 53)
            have hCx : At 53 (W2.alloc (.cells #[.int .u8 (bt cc.k 0), .int .u8 (bt cc.k 1), .int .u8 (bt cc.k 2), .int .u8 (bt cc.k 3), .int .u8 (bt cc.k 4), .int .u8 (bt cc.k 5), .int .u8 (bt cc.k 6), .int .u8 (bt cc.k 7), .int .i64 cc.v, .string cc.s] 53)) W2.heap.size #[.int .u8 (bt cc.k 0), .int .u8 (bt cc.k 1), .int .u8 (bt cc.k 2), .int .u8 (bt cc.k 3), .int .u8 (bt cc.k 4), .int .u8 (bt cc.k 5), .int .u8 (bt cc.k 6), .int .u8 (bt cc.k 7), .int .i64 cc.v, .string cc.s] := At.new _ _ _
            have hX3 := At.below hX2 hba
            have hsm3 : SumAt (W2.alloc (.cells #[.int .u8 (bt cc.k 0), .int .u8 (bt cc.k 1), .int .u8 (bt cc.k 2), .int .u8 (bt cc.k 3), .int .u8 (bt cc.k 4), .int .u8 (bt cc.k 5), .int .u8 (bt cc.k 6), .int .u8 (bt cc.k 7), .int .i64 cc.v, .string cc.s] 53)) g5 m b7 := At.below hsm2 hba
            have hmp3 := hmp2.below hba
            have hbb3 := hbb2.trans (hba.mono hbb2.size)
            obtain ⟨y0, y1, y2, y3, y4, y5, y6, y7, y8, y9, y10, y11, y12, y13⟩ := rec_box hX3
            have hQ := isRq_any x.c x.q (W2.alloc (.cells #[.int .u8 (bt cc.k 0), .int .u8 (bt cc.k 1), .int .u8 (bt cc.k 2), .int .u8 (bt cc.k 3), .int .u8 (bt cc.k 4), .int .u8 (bt cc.k 5), .int .u8 (bt cc.k 6), .int .u8 (bt cc.k 7), .int .i64 cc.v, .string cc.s] 53))
            clear hci hcc hX2 hsm2 hmp2 hba
            go_wp2_with fail
            clear x0 x1 x2 x3 x4 x5 x6 x7 x8 x9 x10 x11 x12 x13 m2 hlk
            generalize (W2.alloc (.cells #[.int .u8 (bt cc.k 0), .int .u8 (bt cc.k 1), .int .u8 (bt cc.k 2), .int .u8 (bt cc.k 3), .int .u8 (bt cc.k 4), .int .u8 (bt cc.k 5), .int .u8 (bt cc.k 6), .int .u8 (bt cc.k 7), .int .i64 cc.v, .string cc.s] 53)) = W3 at *
            generalize W2.heap.size = gc at *
            refine hQ.mono ?_
            rintro e W4 ⟨rfl, hb4⟩
            clear hQ
            have hX4 := At.below hX3 hb4
            have hsm4 : SumAt W4 g5 m b7 := At.below hsm3 hb4
            have hmp4 := hmp3.below hb4
            have hC4 := At.below hCx hb4
            have hbb4 := hbb3.trans (hb4.mono hbb3.size)
            clear y0 y1 y2 y3 y4 y5 y6 y7 y8 y9 y10 y11 y12 y13 hX3 hsm3 hmp3 hCx hbb3 hb4
            obtain ⟨rq, hrq⟩ : ∃ rq, isRq x.c x.q = rq := ⟨_, rfl⟩
            rw [hrq] at HS3 ⊢
            cases rq with
            | false =>
              have HN : Hid (r = 1) := by unfold Hid; rw [HS3.out, if_pos rfl]
              clear HS3 hrq
              go_wp2_with fail
              go_ret
              exact ⟨ret_int HN.out.symm, hbb4⟩
            | true =>
              have HS4 : Hid (r = if x.q ≤ (m.d x.c.toNat).q then 153
                else if x.v ≠ cc.v + 1 then 90
                else if ci = false ∧ 12 ≤ m.cs.length then 7 else 0) := by unfold Hid; rw [HS3.out, if_neg (by decide)]
              clear HS3
              have hcr : 0 ≤ x.c ∧ x.c < 4 := by
                unfold isRq at hrq
                simp only [Bool.and_eq_true, decide_eq_true_eq] at hrq
                omega
              obtain ⟨cn, hcn⟩ : ∃ cn : Nat, x.c = (cn : Int) := ⟨x.c.toNat, by omega⟩
              have hcn4 : cn < 4 := by omega
              obtain ⟨_, d1, _⟩ := hsm4.dcell cn hcn4
              obtain ⟨y0, y1, y2, y3, y4, y5, y6, y7, y8, y9, y10, y11, y12, y13⟩ := rec_box hX4
              rw [hcn] at y12 HS4
              rw [Int.toNat_natCast] at HS4
              have hc4 : (cn : Int) < 4 := by omega
              clear hrq hcr hcn
              go_wp2_with fail
              have k12 := cell_regrown y12
              have k13 := cell_regrown y13
              have kd := cell_regrown d1
              refine wp_region_quiet_below (by kernel_rfl) (by kernel_rfl) ?_
              repeat (with_reducible refine wpQuiet_step (fun K hK => ?_); go_simp; first | (with_reducible refine hK _ ?_; clear hK K) | (rw [if_neg (by decide)]; with_reducible refine hK _ ?_; clear hK K))
              with_reducible refine wpQuiet_nil ?_
              intro _ hw'
              obtain ⟨⟨dq, osq⟩, hw''⟩ := hw'
              subst hw''
              have hb5 := below_regrown W4 dq osq
              have hbb5 := hbb4.trans (hb5.mono hbb4.size)
              have hX5 := At.below hX4 hb5
              have hsm5 : SumAt (Sort.grow (redrawn W4 dq) osq) g5 m b7 := At.below hsm4 hb5
              have hmp5 := hmp4.below hb5
              have hC5 := At.below hC4 hb5
              clear hX4 hsm4 hmp4 hC4 hb5 hbb4 k12 k13 kd y0 y1 y2 y3 y4 y5 y6 y7 y8 y9 y10 y11 y12 y13 d1
              generalize Sort.grow (redrawn W4 dq) osq = W5 at *
              have x10 := (rec_box hX5).2.2.2.2.2.2.2.2.2.2.1
              have cv : W5.cell? ⟨gc, 8, none⟩ = some (.int .i64 cc.v) := At.cell hC5 8
              have m2 := hsm5.cells.2.2.1
              have hsz := fun ty => hmp5.size 80 ty mapK
              have hwv : wrap64 (cc.v + 1) = cc.v + 1 := by unfold wrap64; omega
              clear hX5 hsm5 hmp5 hC5 hbnd hbn2
              by_cases c6 : x.q ≤ (m.d cn).q
              · have HN : Hid (r = 153) := by unfold Hid; rw [HS4.out, if_pos c6]
                clear HS4
                go_wp2_with fail
                go_ret
                exact ⟨ret_int HN.out.symm, hbb5⟩
              · by_cases c7 : x.v = cc.v + 1
                · have HS5 : Hid (r = if ci = false ∧ 12 ≤ m.cs.length then 7 else 0) := by unfold Hid; rw [HS4.out, if_neg c6, if_neg (fun h => h c7)]
                  rw [c7] at x10
                  clear HS4 c7
                  cases ci with
                  | true =>
                    have HN : Hid (r = 0) := by unfold Hid; rw [HS5.out, if_neg (fun h => absurd h.1 (by decide))]
                    clear HS5
                    go_wp2_with fail
                    go_ret
                    exact ⟨ret_int HN.out.symm, hbb5⟩
                  | false =>
                    by_cases c8 : 12 ≤ m.cs.length
                    · have HN : Hid (r = 7) := by unfold Hid; rw [HS5.out, if_pos ⟨rfl, c8⟩]
                      have c9 : (12 : Int) ≤ (m.cs.length : Int) := by omega
                      clear HS5 c8
                      go_wp2_with fail
                      go_ret
                      exact ⟨ret_int HN.out.symm, hbb5⟩
                    · have HN : Hid (r = 0) := by unfold Hid; rw [HS5.out, if_neg (fun h => c8 h.2)]
                      have c9 : ¬ (12 : Int) ≤ (m.cs.length : Int) := by omega
                      clear HS5 c8
                      go_wp2_with fail
                      go_ret
                      exact ⟨ret_int HN.out.symm, hbb5⟩
                · have HN : Hid (r = 90) := by unfold Hid; rw [HS4.out, if_neg c6, if_pos c7]
                  clear HS4
                  go_wp2_with fail
                  go_ret
                  exact ⟨ret_int HN.out.symm, hbb5⟩
          · have HN : Hid (r = rk) := by unfold Hid; rw [HS2.out, if_pos c5]
            clear HS2
            go_wp2_with fail
            go_ret
            exact ⟨ret_int HN.out.symm, hbb2⟩
  · have HN : Hid (r = 90) := by unfold Hid; rw [HS.out, if_pos c1]
    clear HS hR1
    go_wp2_with fail
    go_ret
    exact ⟨ret_int HN.out.symm, hb1⟩

end Go.Proofs.YtnbgdkdnlfomeaaDoor.M
