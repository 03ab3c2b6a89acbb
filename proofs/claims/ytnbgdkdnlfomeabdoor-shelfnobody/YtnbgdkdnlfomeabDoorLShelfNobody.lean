/-
  Own text: the walk of the law ShelfNobody.
-/
import Derived.Test.YtnbgdkdnlfomeabDoorBSt0
namespace Go.Proofs.YtnbgdkdnlfomeabDoor.M
open Go.ChangeShapes Go.WideShapes Go.ChangeAt Go.RowKit Go.ChangeMaps Go.MapKept Go.Maps Go.Shelf Go.Proofs
set_option linter.unusedSimpArgs false

/-- A list of two: none, and one that is in block lb. -/
theorem two_cells {w : World} {Z : Array Value} {t pt : TypeId} : At t ((w.alloc (.cells Z t)).alloc (.cells #[.pointer none, .pointer (some ⟨w.heap.size, 0, none⟩)] pt)) w.heap.size Z ∧ At pt ((w.alloc (.cells Z t)).alloc (.cells #[.pointer none, .pointer (some ⟨w.heap.size, 0, none⟩)] pt)) (w.heap.size + 1) #[.pointer none, .pointer (some ⟨w.heap.size, 0, none⟩)] ∧ Below w.heap.size w ((w.alloc (.cells Z t)).alloc (.cells #[.pointer none, .pointer (some ⟨w.heap.size, 0, none⟩)] pt)) := by
  have h1 := below_alloc' w (.cells Z t)
  have h2 := below_alloc' (w.alloc (.cells Z t)) (.cells #[.pointer none, .pointer (some ⟨w.heap.size, 0, none⟩)] pt)
  have hs : (w.alloc (.cells Z t)).heap.size = w.heap.size + 1 := by simp
  refine ⟨(At.new t w Z).below h2, ?_, h1.trans (h2.mono h1.size)⟩
  have h3 := At.new pt (w.alloc (.cells Z t)) #[.pointer none, .pointer (some ⟨w.heap.size, 0, none⟩)]
  rw [hs] at h3
  exact h3

theorem rec0 : (#[.int .i64 Rc.z0.ix, .int .i64 Rc.z0.ep, .int .u8 (bt Rc.z0.k 0), .int .u8 (bt Rc.z0.k 1), .int .u8 (bt Rc.z0.k 2), .int .u8 (bt Rc.z0.k 3), .int .u8 (bt Rc.z0.k 4), .int .u8 (bt Rc.z0.k 5), .int .u8 (bt Rc.z0.k 6), .int .u8 (bt Rc.z0.k 7), .int .i64 Rc.z0.v, .string Rc.z0.s, .int .i64 Rc.z0.c, .int .i64 Rc.z0.q] : Array Value) = #[.int .i64 0, .int .i64 0, .int .u8 0, .int .u8 0, .int .u8 0, .int .u8 0, .int .u8 0, .int .u8 0, .int .u8 0, .int .u8 0, .int .i64 0, .string ⟨#[]⟩, .int .i64 0, .int .i64 0] := by simp [Rc.z0, bt]

theorem neq_rec0 (w : World) : (binOp .neq 41 (.agg #[.int .i64 0, .int .i64 0, .int .u8 0, .int .u8 0, .int .u8 0, .int .u8 0, .int .u8 0, .int .u8 0, .int .u8 0, .int .u8 0, .int .i64 0, .string ⟨#[]⟩, .int .i64 0, .int .i64 0]) (.agg #[.int .i64 0, .int .i64 0, .int .u8 0, .int .u8 0, .int .u8 0, .int .u8 0, .int .u8 0, .int .u8 0, .int .u8 0, .int .u8 0, .int .i64 0, .string ⟨#[]⟩, .int .i64 0, .int .i64 0])).run Tryd.prog w = .ok (.bool false) w := by
  have h := neq_rec .z0 .z0 w
  rw [rec0, show eqRc .z0 .z0 = true from by simp [eqRc, eqBt, Rc.z0]] at h
  exact h

theorem neq_cel0 (w : World) : (binOp .neq 71 (.agg #[.int .u8 0, .int .u8 0, .int .u8 0, .int .u8 0, .int .u8 0, .int .u8 0, .int .u8 0, .int .u8 0, .int .i64 0, .string ⟨#[]⟩]) (.agg #[.int .u8 0, .int .u8 0, .int .u8 0, .int .u8 0, .int .u8 0, .int .u8 0, .int .u8 0, .int .u8 0, .int .i64 0, .string ⟨#[]⟩])).run Tryd.prog w = .ok (.bool false) w := by
  have h := neq_cel .z0 .z0 w
  rw [cel0, show eqCe .z0 .z0 = true from by simp [eqCe, eqBt, Ce.z0]] at h
  exact h

set_option maxRecDepth 20000 in
set_option maxHeartbeats 4000000 in
theorem walk_ShelfNobody (w : World) (hT : Tabs w) (d : Dv) : Calls Tryd.prog 4 #[.agg #[.int .i64 d.op, .int .i64 d.ep, .int .i64 d.i, .bool d.nr, .int .u8 (bt d.k 0), .int .u8 (bt d.k 1), .int .u8 (bt d.k 2), .int .u8 (bt d.k 3), .int .u8 (bt d.k 4), .int .u8 (bt d.k 5), .int .u8 (bt d.k 6), .int .u8 (bt d.k 7), .string d.s, .int .i64 d.c, .int .i64 d.q, .int .i64 d.x.ix, .int .i64 d.x.ep, .int .u8 (bt d.x.k 0), .int .u8 (bt d.x.k 1), .int .u8 (bt d.x.k 2), .int .u8 (bt d.x.k 3), .int .u8 (bt d.x.k 4), .int .u8 (bt d.x.k 5), .int .u8 (bt d.x.k 6), .int .u8 (bt d.x.k 7), .int .i64 d.x.v, .string d.x.s, .int .i64 d.x.c, .int .i64 d.x.q]] w fun e w' => e = .returned (.bool true) ∧ Below w.heap.size w w' := by
  have h0 := below_alloc' w (.cells #[.int .i64 d.op, .int .i64 d.ep, .int .i64 d.i, .bool d.nr, .int .u8 (bt d.k 0), .int .u8 (bt d.k 1), .int .u8 (bt d.k 2), .int .u8 (bt d.k 3), .int .u8 (bt d.k 4), .int .u8 (bt d.k 5), .int .u8 (bt d.k 6), .int .u8 (bt d.k 7), .string d.s, .int .i64 d.c, .int .i64 d.q, .int .i64 d.x.ix, .int .i64 d.x.ep, .int .u8 (bt d.x.k 0), .int .u8 (bt d.x.k 1), .int .u8 (bt d.x.k 2), .int .u8 (bt d.x.k 3), .int .u8 (bt d.x.k 4), .int .u8 (bt d.x.k 5), .int .u8 (bt d.x.k 6), .int .u8 (bt d.x.k 7), .int .i64 d.x.v, .string d.x.s, .int .i64 d.x.c, .int .i64 d.x.q] 43)
  have hA0 := At.new 43 w #[.int .i64 d.op, .int .i64 d.ep, .int .i64 d.i, .bool d.nr, .int .u8 (bt d.k 0), .int .u8 (bt d.k 1), .int .u8 (bt d.k 2), .int .u8 (bt d.k 3), .int .u8 (bt d.k 4), .int .u8 (bt d.k 5), .int .u8 (bt d.k 6), .int .u8 (bt d.k 7), .string d.s, .int .i64 d.c, .int .i64 d.q, .int .i64 d.x.ix, .int .i64 d.x.ep, .int .u8 (bt d.x.k 0), .int .u8 (bt d.x.k 1), .int .u8 (bt d.x.k 2), .int .u8 (bt d.x.k 3), .int .u8 (bt d.x.k 4), .int .u8 (bt d.x.k 5), .int .u8 (bt d.x.k 6), .int .u8 (bt d.x.k 7), .int .i64 d.x.v, .string d.x.s, .int .i64 d.x.c, .int .i64 d.x.q]
  have s1 : (w.alloc (.cells #[.int .i64 d.op, .int .i64 d.ep, .int .i64 d.i, .bool d.nr, .int .u8 (bt d.k 0), .int .u8 (bt d.k 1), .int .u8 (bt d.k 2), .int .u8 (bt d.k 3), .int .u8 (bt d.k 4), .int .u8 (bt d.k 5), .int .u8 (bt d.k 6), .int .u8 (bt d.k 7), .string d.s, .int .i64 d.c, .int .i64 d.q, .int .i64 d.x.ix, .int .i64 d.x.ep, .int .u8 (bt d.x.k 0), .int .u8 (bt d.x.k 1), .int .u8 (bt d.x.k 2), .int .u8 (bt d.x.k 3), .int .u8 (bt d.x.k 4), .int .u8 (bt d.x.k 5), .int .u8 (bt d.x.k 6), .int .u8 (bt d.x.k 7), .int .i64 d.x.v, .string d.x.s, .int .i64 d.x.c, .int .i64 d.x.q] 43)).heap.size = w.heap.size + 1 := by simp
  generalize hW1 : (w.alloc (.cells #[.int .i64 d.op, .int .i64 d.ep, .int .i64 d.i, .bool d.nr, .int .u8 (bt d.k 0), .int .u8 (bt d.k 1), .int .u8 (bt d.k 2), .int .u8 (bt d.k 3), .int .u8 (bt d.k 4), .int .u8 (bt d.k 5), .int .u8 (bt d.k 6), .int .u8 (bt d.k 7), .string d.s, .int .i64 d.c, .int .i64 d.q, .int .i64 d.x.ix, .int .i64 d.x.ep, .int .u8 (bt d.x.k 0), .int .u8 (bt d.x.k 1), .int .u8 (bt d.x.k 2), .int .u8 (bt d.x.k 3), .int .u8 (bt d.x.k 4), .int .u8 (bt d.x.k 5), .int .u8 (bt d.x.k 6), .int .u8 (bt d.x.k 7), .int .i64 d.x.v, .string d.x.s, .int .i64 d.x.c, .int .i64 d.x.q] 43)) = W1 at *
  have h1 := below_alloc' W1 (.cells #[.int .i64 d.op, .int .i64 d.ep, .int .i64 d.i, .bool d.nr, .int .u8 (bt d.k 0), .int .u8 (bt d.k 1), .int .u8 (bt d.k 2), .int .u8 (bt d.k 3), .int .u8 (bt d.k 4), .int .u8 (bt d.k 5), .int .u8 (bt d.k 6), .int .u8 (bt d.k 7), .string d.s, .int .i64 d.c, .int .i64 d.q, .int .i64 d.x.ix, .int .i64 d.x.ep, .int .u8 (bt d.x.k 0), .int .u8 (bt d.x.k 1), .int .u8 (bt d.x.k 2), .int .u8 (bt d.x.k 3), .int .u8 (bt d.x.k 4), .int .u8 (bt d.x.k 5), .int .u8 (bt d.x.k 6), .int .u8 (bt d.x.k 7), .int .i64 d.x.v, .string d.x.s, .int .i64 d.x.c, .int .i64 d.x.q] 43)
  have hB0 := At.new 43 W1 #[.int .i64 d.op, .int .i64 d.ep, .int .i64 d.i, .bool d.nr, .int .u8 (bt d.k 0), .int .u8 (bt d.k 1), .int .u8 (bt d.k 2), .int .u8 (bt d.k 3), .int .u8 (bt d.k 4), .int .u8 (bt d.k 5), .int .u8 (bt d.k 6), .int .u8 (bt d.k 7), .string d.s, .int .i64 d.c, .int .i64 d.q, .int .i64 d.x.ix, .int .i64 d.x.ep, .int .u8 (bt d.x.k 0), .int .u8 (bt d.x.k 1), .int .u8 (bt d.x.k 2), .int .u8 (bt d.x.k 3), .int .u8 (bt d.x.k 4), .int .u8 (bt d.x.k 5), .int .u8 (bt d.x.k 6), .int .u8 (bt d.x.k 7), .int .i64 d.x.v, .string d.x.s, .int .i64 d.x.c, .int .i64 d.x.q]
  rw [s1] at hB0
  have hA1 := hA0.below h1
  have s2 : (W1.alloc (.cells #[.int .i64 d.op, .int .i64 d.ep, .int .i64 d.i, .bool d.nr, .int .u8 (bt d.k 0), .int .u8 (bt d.k 1), .int .u8 (bt d.k 2), .int .u8 (bt d.k 3), .int .u8 (bt d.k 4), .int .u8 (bt d.k 5), .int .u8 (bt d.k 6), .int .u8 (bt d.k 7), .string d.s, .int .i64 d.c, .int .i64 d.q, .int .i64 d.x.ix, .int .i64 d.x.ep, .int .u8 (bt d.x.k 0), .int .u8 (bt d.x.k 1), .int .u8 (bt d.x.k 2), .int .u8 (bt d.x.k 3), .int .u8 (bt d.x.k 4), .int .u8 (bt d.x.k 5), .int .u8 (bt d.x.k 6), .int .u8 (bt d.x.k 7), .int .i64 d.x.v, .string d.x.s, .int .i64 d.x.c, .int .i64 d.x.q] 43)).heap.size = w.heap.size + 1 + 1 := by simp [s1]
  generalize hW2 : W1.alloc (.cells #[.int .i64 d.op, .int .i64 d.ep, .int .i64 d.i, .bool d.nr, .int .u8 (bt d.k 0), .int .u8 (bt d.k 1), .int .u8 (bt d.k 2), .int .u8 (bt d.k 3), .int .u8 (bt d.k 4), .int .u8 (bt d.k 5), .int .u8 (bt d.k 6), .int .u8 (bt d.k 7), .string d.s, .int .i64 d.c, .int .i64 d.q, .int .i64 d.x.ix, .int .i64 d.x.ep, .int .u8 (bt d.x.k 0), .int .u8 (bt d.x.k 1), .int .u8 (bt d.x.k 2), .int .u8 (bt d.x.k 3), .int .u8 (bt d.x.k 4), .int .u8 (bt d.x.k 5), .int .u8 (bt d.x.k 6), .int .u8 (bt d.x.k 7), .int .i64 d.x.v, .string d.x.s, .int .i64 d.x.c, .int .i64 d.x.q] 43) = W2 at *
  have h2 := below_alloc' W2 (.cells #[.slice (some ⟨w.heap.size + 1, 0, none⟩) 1 1] 26)
  have hC := At.new 26 W2 #[.slice (some ⟨w.heap.size + 1, 0, none⟩) 1 1]
  rw [s2] at hC
  have hA := hA1.below h2
  have hB := hB0.below h2
  generalize hW3 : W2.alloc (.cells #[.slice (some ⟨w.heap.size + 1, 0, none⟩) 1 1] 26) = W3 at *
  have HB := (h0.trans (h1.mono h0.size)).trans (h2.mono (h0.trans (h1.mono h0.size)).size)
  have hsh := short1_any hB.dat (hC.cell 0)
  clear h0 h1 h2 hA1 hB0
  go_enter Tryd.func4, Tryd.ntmps4
  go_wp2_with (refine wpList_load_row rfl 43 _ rfl w.heap.size rfl _ _ _ _ hA0 Tryd.underlying43 rfl infoDo ?_)
  refine hsh.mono ?_
  rintro e w3 ⟨⟨bb, rfl⟩, hb⟩
  clear hsh hB hC hA0
  generalize Value.agg #[.int .i64 d.op, .int .i64 d.ep, .int .i64 d.i, .bool d.nr, .int .u8 (bt d.k 0), .int .u8 (bt d.k 1), .int .u8 (bt d.k 2), .int .u8 (bt d.k 3), .int .u8 (bt d.k 4), .int .u8 (bt d.k 5), .int .u8 (bt d.k 6), .int .u8 (bt d.k 7), .string d.s, .int .i64 d.c, .int .i64 d.q, .int .i64 d.x.ix, .int .i64 d.x.ep, .int .u8 (bt d.x.k 0), .int .u8 (bt d.x.k 1), .int .u8 (bt d.x.k 2), .int .u8 (bt d.x.k 3), .int .u8 (bt d.x.k 4), .int .u8 (bt d.x.k 5), .int .u8 (bt d.x.k 6), .int .u8 (bt d.x.k 7), .int .i64 d.x.v, .string d.x.s, .int .i64 d.x.c, .int .i64 d.x.q] = dv0
  replace HB := HB.trans (hb.mono HB.size)
  replace hA := hA.below hb
  clear hb
  cases bb with
  | false =>
    have hW := awake_any _ (hT.up HB)
    go_wp2_with fail
    refine hW.mono ?_
    rintro e w9 ⟨rfl, hb9⟩
    go_wp2_with fail
    go_ret
    exact ⟨rfl, HB.trans (hb9.mono HB.size)⟩
  | true =>
    obtain ⟨hL, hP, hb⟩ := two_cells (w := w3) (Z := #[.int .i64 0, .int .i64 0, .map none, .int .i64 0, .int .i64 0, .int .i64 0, .int .i64 0, .int .i64 0, .int .i64 0, .int .i64 0, .int .i64 0, .int .i64 0, .int .i64 0, .int .i64 0, .int .i64 0, .slice none 0 0, .int .i64 0]) (t := 61) (pt := 32)
    replace HB := HB.trans (hb.mono HB.size)
    replace hA := hA.below hb
    clear hb
    go_wp2_with fail
    generalize ((w3.alloc (.cells #[.int .i64 0, .int .i64 0, .map none, .int .i64 0, .int .i64 0, .int .i64 0, .int .i64 0, .int .i64 0, .int .i64 0, .int .i64 0, .int .i64 0, .int .i64 0, .int .i64 0, .int .i64 0, .int .i64 0, .slice none 0 0, .int .i64 0] 61)).alloc (.cells #[.pointer none, .pointer (some ⟨w3.heap.size, 0, none⟩)] 32)) = w4 at *
    generalize w3.heap.size = lb at *
    generalize Value.agg #[.int .i64 0, .int .i64 0, .map none, .int .i64 0, .int .i64 0, .int .i64 0, .int .i64 0, .int .i64 0, .int .i64 0, .int .i64 0, .int .i64 0, .int .i64 0, .int .i64 0, .int .i64 0, .int .i64 0, .slice none 0 0, .int .i64 0] = zv
    go_loopw [27] (fun i wr => ∃ (k : Nat), k ≤ 2 ∧ i = .int .i64 k ∧ Below w.heap.size w wr ∧ At 43 wr w.heap.size #[.int .i64 d.op, .int .i64 d.ep, .int .i64 d.i, .bool d.nr, .int .u8 (bt d.k 0), .int .u8 (bt d.k 1), .int .u8 (bt d.k 2), .int .u8 (bt d.k 3), .int .u8 (bt d.k 4), .int .u8 (bt d.k 5), .int .u8 (bt d.k 6), .int .u8 (bt d.k 7), .string d.s, .int .i64 d.c, .int .i64 d.q, .int .i64 d.x.ix, .int .i64 d.x.ep, .int .u8 (bt d.x.k 0), .int .u8 (bt d.x.k 1), .int .u8 (bt d.x.k 2), .int .u8 (bt d.x.k 3), .int .u8 (bt d.x.k 4), .int .u8 (bt d.x.k 5), .int .u8 (bt d.x.k 6), .int .u8 (bt d.x.k 7), .int .i64 d.x.v, .string d.x.s, .int .i64 d.x.c, .int .i64 d.x.q] ∧ At 61 wr lb #[.int .i64 0, .int .i64 0, .map none, .int .i64 0, .int .i64 0, .int .i64 0, .int .i64 0, .int .i64 0, .int .i64 0, .int .i64 0, .int .i64 0, .int .i64 0, .int .i64 0, .int .i64 0, .int .i64 0, .slice none 0 0, .int .i64 0] ∧ At 32 wr (lb + 1) #[.pointer none, .pointer (some ⟨lb, 0, none⟩)]) (fun i _ => 2 - (intOf i).toNat)
    case atStart => exact ⟨0, Nat.zero_le _, rfl, HB, hA, hL, hP⟩
    case round =>
     clear HB hA hL hP
     obtain ⟨k, hk, rfl, HB, hA, hL, hP⟩ := hrel
     by_cases hkn : k < 2
     · have hki : (k : Int) < 2 := by omega
       obtain ⟨gv, hgv, hN⟩ : ∃ gv, wr.cell? ⟨lb + 1, k, none⟩ = some gv ∧ NoS gv wr := by
         match k, hkn with
         | 0, _ => exact ⟨_, hP.cell 0, NoS.nil _⟩
         | 1, _ => exact ⟨_, hP.cell 1, NoS.zero (hL.cell 2)⟩
       go_wp2_with (refine wpList_load_row rfl 43 _ rfl w.heap.size rfl _ _ _ _ hA Tryd.underlying43 rfl infoDo ?_)
       refine (does_no hN d).mono ?_
       rintro e v11 ⟨rfl, hb⟩
       replace HB := HB.trans (hb.mono HB.size)
       replace hA := hA.below hb
       replace hL := hL.below hb
       replace hP := hP.below hb
       replace hN := hN.below hb
       clear hb
       have hb := below_alloc' v11 (.cells #[.int .i64 0, .int .i64 0, .int .u8 0, .int .u8 0, .int .u8 0, .int .u8 0, .int .u8 0, .int .u8 0, .int .u8 0, .int .u8 0, .int .i64 0, .string ⟨#[]⟩, .int .i64 0, .int .i64 0] 41)
       have hX := At.new 41 v11 #[.int .i64 0, .int .i64 0, .int .u8 0, .int .u8 0, .int .u8 0, .int .u8 0, .int .u8 0, .int .u8 0, .int .u8 0, .int .u8 0, .int .i64 0, .string ⟨#[]⟩, .int .i64 0, .int .i64 0]
       replace hA := hA.below hb
       replace hL := hL.below hb
       replace hP := hP.below hb
       replace hN := hN.below hb
       replace HB := HB.trans (hb.mono HB.size)
       clear hb
       generalize Value.agg #[.int .i64 d.op, .int .i64 d.ep, .int .i64 d.i, .bool d.nr, .int .u8 (bt d.k 0), .int .u8 (bt d.k 1), .int .u8 (bt d.k 2), .int .u8 (bt d.k 3), .int .u8 (bt d.k 4), .int .u8 (bt d.k 5), .int .u8 (bt d.k 6), .int .u8 (bt d.k 7), .string d.s, .int .i64 d.c, .int .i64 d.q, .int .i64 d.x.ix, .int .i64 d.x.ep, .int .u8 (bt d.x.k 0), .int .u8 (bt d.x.k 1), .int .u8 (bt d.x.k 2), .int .u8 (bt d.x.k 3), .int .u8 (bt d.x.k 4), .int .u8 (bt d.x.k 5), .int .u8 (bt d.x.k 6), .int .u8 (bt d.x.k 7), .int .i64 d.x.v, .string d.x.s, .int .i64 d.x.c, .int .i64 d.x.q] = dv1
       go_wp2_with fail
       generalize v11.alloc (.cells #[.int .i64 0, .int .i64 0, .int .u8 0, .int .u8 0, .int .u8 0, .int .u8 0, .int .u8 0, .int .u8 0, .int .u8 0, .int .u8 0, .int .i64 0, .string ⟨#[]⟩, .int .i64 0, .int .i64 0] 41) = wx at *
       generalize v11.heap.size = xg at *
       generalize Value.tuple #[Value.agg #[.int .i64 0, .int .i64 0, .int .u8 0, .int .u8 0, .int .u8 0, .int .u8 0, .int .u8 0, .int .u8 0, .int .u8 0, .int .u8 0, .int .i64 0, .string ⟨#[]⟩, .int .i64 0, .int .i64 0], Value.int IntKind.i64 6] = tv1
       generalize Value.agg #[.int .i64 0, .int .i64 0, .int .u8 0, .int .u8 0, .int .u8 0, .int .u8 0, .int .u8 0, .int .u8 0, .int .u8 0, .int .u8 0, .int .i64 0, .string ⟨#[]⟩, .int .i64 0, .int .i64 0] = zv1
       refine (last2_no hN).mono ?_
       rintro e w12 ⟨rfl, rfl⟩
       as_aux_lemma =>
         have fi := hA.dat.i
         simp only [Nat.zero_add] at fi
         go_wp2_with fail
         clear fi
         refine (epoch_no hN d.i).mono ?_
         rintro e v12 ⟨rfl, hb⟩
         replace HB := HB.trans (hb.mono HB.size)
         replace hA := hA.below hb
         replace hL := hL.below hb
         replace hP := hP.below hb
         replace hN := hN.below hb
         replace hX := hX.below hb
         clear hb
         have fc := hA.dat.c
         have fq := hA.dat.q
         simp only [Nat.zero_add] at fc fq
         go_wp2_with fail
         clear fc fq
         refine (known_no hN d.c d.q).mono ?_
         rintro e v13 ⟨rfl, hb⟩
         replace HB := HB.trans (hb.mono HB.size)
         replace hA := hA.below hb
         replace hL := hL.below hb
         replace hP := hP.below hb
         replace hN := hN.below hb
         replace hX := hX.below hb
         clear hb
         as_aux_lemma =>
           have fi := hA.dat.i
           simp only [Nat.zero_add] at fi
           go_wp2_with fail
           clear fi
           refine (behind_no hN d.i 9).mono ?_
           rintro e v14 ⟨rfl, hb⟩
           replace HB := HB.trans (hb.mono HB.size)
           replace hA := hA.below hb
           replace hL := hL.below hb
           replace hP := hP.below hb
           replace hN := hN.below hb
           replace hX := hX.below hb
           clear hb
           have fk0 := hA.dat.k0
           have fk1 := hA.dat.k1
           have fk2 := hA.dat.k2
           have fk3 := hA.dat.k3
           have fk4 := hA.dat.k4
           have fk5 := hA.dat.k5
           have fk6 := hA.dat.k6
           have fk7 := hA.dat.k7
           have fi := hA.dat.i
           simp only [Nat.zero_add] at fk0 fk1 fk2 fk3 fk4 fk5 fk6 fk7 fi
           go_wp2_with fail
           clear fk0 fk1 fk2 fk3 fk4 fk5 fk6 fk7 fi
           refine (of_no hN d.k d.i).mono ?_
           rintro e v15 ⟨rfl, hb⟩
           replace HB := HB.trans (hb.mono HB.size)
           replace hA := hA.below hb
           replace hL := hL.below hb
           replace hP := hP.below hb
           replace hN := hN.below hb
           replace hX := hX.below hb
           clear hb
           as_aux_lemma =>
             have kE := neq_rec0
             go_wp2_with (refine wpList_load_row rfl 41 _ rfl xg rfl _ _ _ _ hX Tryd.underlying41 rfl infoRc ?_)
             refine (low_no hN).mono ?_
             rintro e v16 ⟨rfl, rfl⟩
             generalize Value.agg #[.int .i64 0, .int .i64 0, .int .u8 0, .int .u8 0, .int .u8 0, .int .u8 0, .int .u8 0, .int .u8 0, .int .u8 0, .int .u8 0, .int .i64 0, .string ⟨#[]⟩, .int .i64 0, .int .i64 0] = zv2
             go_wp2_with fail
             refine (commit_no hN).mono ?_
             rintro e v17 ⟨rfl, rfl⟩
             as_aux_lemma =>
               go_wp2_with fail
               refine (dirty_no hN).mono ?_
               rintro e v18 ⟨rfl, rfl⟩
               go_wp2_with fail
               refine (clone_no hN).mono ?_
               rintro e v19 ⟨rfl, hb⟩
               replace HB := HB.trans (hb.mono HB.size)
               replace hA := hA.below hb
               replace hL := hL.below hb
               replace hP := hP.below hb
               replace hN := hN.below hb
               replace hX := hX.below hb
               clear hb
               as_aux_lemma =>
                 clear kE
                 have kE := neq_cel0
                 have fk0 := hA.dat.k0
                 have fk1 := hA.dat.k1
                 have fk2 := hA.dat.k2
                 have fk3 := hA.dat.k3
                 have fk4 := hA.dat.k4
                 have fk5 := hA.dat.k5
                 have fk6 := hA.dat.k6
                 have fk7 := hA.dat.k7
                 simp only [Nat.zero_add] at fk0 fk1 fk2 fk3 fk4 fk5 fk6 fk7
                 go_wp2_with fail
                 clear fk0 fk1 fk2 fk3 fk4 fk5 fk6 fk7
                 refine (clean_no hN d.k).mono ?_
                 rintro e v20 ⟨rfl, hb⟩
                 replace HB := HB.trans (hb.mono HB.size)
                 replace hA := hA.below hb
                 replace hL := hL.below hb
                 replace hP := hP.below hb
                 replace hN := hN.below hb
                 replace hX := hX.below hb
                 clear hb
                 have fk0 := hA.dat.k0
                 have fk1 := hA.dat.k1
                 have fk2 := hA.dat.k2
                 have fk3 := hA.dat.k3
                 have fk4 := hA.dat.k4
                 have fk5 := hA.dat.k5
                 have fk6 := hA.dat.k6
                 have fk7 := hA.dat.k7
                 simp only [Nat.zero_add] at fk0 fk1 fk2 fk3 fk4 fk5 fk6 fk7
                 go_wp2_with fail
                 clear fk0 fk1 fk2 fk3 fk4 fk5 fk6 fk7
                 refine (top_no hN d.k).mono ?_
                 rintro e v21 ⟨rfl, hb⟩
                 replace HB := HB.trans (hb.mono HB.size)
                 replace hA := hA.below hb
                 replace hL := hL.below hb
                 replace hP := hP.below hb
                 replace hN := hN.below hb
                 replace hX := hX.below hb
                 clear hb
                 as_aux_lemma =>
                   go_wp2_with fail
                   refine (table_no hN).mono ?_
                   rintro e v22 ⟨rfl, hb⟩
                   replace HB := HB.trans (hb.mono HB.size)
                   replace hA := hA.below hb
                   replace hL := hL.below hb
                   replace hP := hP.below hb
                   replace hN := hN.below hb
                   replace hX := hX.below hb
                   clear hb
                   generalize Value.agg #[.int .u8 0, .int .u8 0, .int .u8 0, .int .u8 0, .int .u8 0, .int .u8 0, .int .u8 0, .int .u8 0, .int .i64 0, .string ⟨#[]⟩] = zv3
                   go_wp2_with fail
                   refine (same0_any _).mono ?_
                   rintro e v23 ⟨rfl, hb⟩
                   replace HB := HB.trans (hb.mono HB.size)
                   replace hA := hA.below hb
                   replace hL := hL.below hb
                   replace hP := hP.below hb
                   replace hN := hN.below hb
                   replace hX := hX.below hb
                   clear hb
                   as_aux_lemma =>
                     go_wp2_with fail
                     refine (whole_no hN).mono ?_
                     rintro e v24 ⟨rfl, hb⟩
                     replace HB := HB.trans (hb.mono HB.size)
                     replace hA := hA.below hb
                     replace hL := hL.below hb
                     replace hP := hP.below hb
                     replace hN := hN.below hb
                     replace hX := hX.below hb
                     clear hb
                     go_wp2_with fail
                     refine (same0_any _).mono ?_
                     rintro e v25 ⟨rfl, hb⟩
                     replace HB := HB.trans (hb.mono HB.size)
                     replace hA := hA.below hb
                     replace hL := hL.below hb
                     replace hP := hP.below hb
                     replace hN := hN.below hb
                     replace hX := hX.below hb
                     clear hb
                     clear kE
                     go_wp2_with fail
                     go_roundw
                     case rel => exact ⟨k + 1, by omega, by go_num, HB, hA, hL, hP⟩
                     case measure => simp [intOf]; omega
     · obtain rfl : k = 2 := by omega
       have hW := awake_any _ (hT.up HB)
       go_wp2_with fail
       refine hW.mono ?_
       rintro e w9 ⟨rfl, hb9⟩
       go_wp2_with fail
       go_ret
       exact ⟨rfl, HB.trans (hb9.mono HB.size)⟩

end Go.Proofs.YtnbgdkdnlfomeabDoor.M
