/-
  Own text: the record that a request would be.
-/
import Derived.Test.YtnbgdkdnlfomeaaDoorBSt
namespace Go.Proofs.YtnbgdkdnlfomeaaDoor.M
open Go.ChangeShapes Go.WideShapes Go.ChangeAt Go.RowKit Go.ChangeMaps Go.MapKept Go.Maps Go.Shelf Go.Proofs
set_option linter.unusedSimpArgs false

theorem field_cel (c : Ce) (w : World) : (Instr.field 53 (.agg #[.int .u8 (bt c.k 0), .int .u8 (bt c.k 1), .int .u8 (bt c.k 2), .int .u8 (bt c.k 3), .int .u8 (bt c.k 4), .int .u8 (bt c.k 5), .int .u8 (bt c.k 6), .int .u8 (bt c.k 7), .int .i64 c.v, .string c.s]) 1).run Tryd.prog w = .ok (.int .i64 c.v) w := by
  have hi : (Tryd.prog.info? 3).map (·.size) = some 1 := by kernel_rfl
  cases hq : Tryd.prog.info? 3 with
  | none => simp [hq] at hi
  | some i =>
    have hs : i.size = 1 := by simpa [hq] using hi
    simp [Instr.field, run_underlying Tryd.underlying53, part, asAgg, sizeOf, typeInfo, hq, hs]

theorem infoRc : (Tryd.prog.info? 64).map (·.size) = some 14 := by kernel_rfl
theorem oneRc {x : Rc} : (#[.int .i64 x.ix, .int .i64 x.ep, .int .u8 (bt x.k 0), .int .u8 (bt x.k 1), .int .u8 (bt x.k 2), .int .u8 (bt x.k 3), .int .u8 (bt x.k 4), .int .u8 (bt x.k 5), .int .u8 (bt x.k 6), .int .u8 (bt x.k 7), .int .i64 x.v, .string x.s, .int .i64 x.c, .int .i64 x.q] : Array Value).all (·.oneCell') = true := by simp [Value.oneCell']

/-- Room for a record, of the call's own; and a record there. -/
def NA (w : World) (g : Nat) (W : World) : Prop := Bl w W ∧ At 64 W g #[.int .i64 0, .int .i64 0, .int .u8 0, .int .u8 0, .int .u8 0, .int .u8 0, .int .u8 0, .int .u8 0, .int .u8 0, .int .u8 0, .int .i64 0, .string ⟨#[]⟩, .int .i64 0, .int .i64 0] ∧ w.heap.size ≤ g
theorem NA.stays (w : World) (g : Nat) : Stays (NA w g) := fun W W' h hb => ⟨Bl.stays w W W' h.1 hb, At.below h.2.1 hb, h.2.2⟩
def NB (w : World) (g : Nat) (x : Rc) (W : World) : Prop := Bl w W ∧ At 64 W g #[.int .i64 x.ix, .int .i64 x.ep, .int .u8 (bt x.k 0), .int .u8 (bt x.k 1), .int .u8 (bt x.k 2), .int .u8 (bt x.k 3), .int .u8 (bt x.k 4), .int .u8 (bt x.k 5), .int .u8 (bt x.k 6), .int .u8 (bt x.k 7), .int .i64 x.v, .string x.s, .int .i64 x.c, .int .i64 x.q] ∧ w.heap.size ≤ g
theorem NB.stays (w : World) (g : Nat) (x : Rc) : Stays (NB w g x) := fun W W' h hb => ⟨Bl.stays w W W' h.1 hb, At.below h.2.1 hb, h.2.2⟩

/-- The record that a request would be. -/
def Sh.nx (s : Sh) (ep : Int) (k : Nat) (vs : ByteArray) (c q : Int) : Rc := ⟨s.last + 1, ep, k, ((lookC (s.low.adds s.tail).cs k).getD .z0).v + 1, vs, c, q⟩

/-- What Next tells. -/
def Sh.nextE (s : Sh) (x : Rc) : Int := if (s.low.adds s.tail).stands x ≠ 0 then (s.low.adds s.tail).stands x else if 8 ≤ s.last - s.com then 7 else 0

/-- The record that Next tells. -/
def Sh.nextR (s : Sh) (x : Rc) : Rc := if s.nextE x = 0 then x else .z0

theorem recZ : (#[.int .i64 Rc.z0.ix, .int .i64 Rc.z0.ep, .int .u8 (bt Rc.z0.k 0), .int .u8 (bt Rc.z0.k 1), .int .u8 (bt Rc.z0.k 2), .int .u8 (bt Rc.z0.k 3), .int .u8 (bt Rc.z0.k 4), .int .u8 (bt Rc.z0.k 5), .int .u8 (bt Rc.z0.k 6), .int .u8 (bt Rc.z0.k 7), .int .i64 Rc.z0.v, .string Rc.z0.s, .int .i64 Rc.z0.c, .int .i64 Rc.z0.q] : Array Value) = #[.int .i64 0, .int .i64 0, .int .u8 0, .int .u8 0, .int .u8 0, .int .u8 0, .int .u8 0, .int .u8 0, .int .u8 0, .int .u8 0, .int .i64 0, .string ⟨#[]⟩, .int .i64 0, .int .i64 0] := rfl

set_option maxRecDepth 20000 in
set_option maxHeartbeats 4000000 in
theorem next_any {w : World} {g b : Nat} {p : Option Addr} {n cp : Nat} {s : Sh} (h : ShB w g b p n cp s) (ep : Int) (k : Nat) (hk : k < 18446744073709551616) (vs : ByteArray) (hvs : vs.size ≤ 9223372036854775807) (c q : Int) (hT : Tabs w) :
    Calls Tryd.prog 40 #[.pointer (some ⟨g, 0, none⟩), .int .i64 ep, .agg #[.int .u8 (bt (k) 0), .int .u8 (bt (k) 1), .int .u8 (bt (k) 2), .int .u8 (bt (k) 3), .int .u8 (bt (k) 4), .int .u8 (bt (k) 5), .int .u8 (bt (k) 6), .int .u8 (bt (k) 7)], .string vs, .agg #[.int .i64 c, .int .i64 q]] w fun e w' => e = .returned (.tuple #[.agg #[.int .i64 (s.nextR (s.nx ep k vs c q)).ix, .int .i64 (s.nextR (s.nx ep k vs c q)).ep, .int .u8 (bt (s.nextR (s.nx ep k vs c q)).k 0), .int .u8 (bt (s.nextR (s.nx ep k vs c q)).k 1), .int .u8 (bt (s.nextR (s.nx ep k vs c q)).k 2), .int .u8 (bt (s.nextR (s.nx ep k vs c q)).k 3), .int .u8 (bt (s.nextR (s.nx ep k vs c q)).k 4), .int .u8 (bt (s.nextR (s.nx ep k vs c q)).k 5), .int .u8 (bt (s.nextR (s.nx ep k vs c q)).k 6), .int .u8 (bt (s.nextR (s.nx ep k vs c q)).k 7), .int .i64 (s.nextR (s.nx ep k vs c q)).v, .string (s.nextR (s.nx ep k vs c q)).s, .int .i64 (s.nextR (s.nx ep k vs c q)).c, .int .i64 (s.nextR (s.nx ep k vs c q)).q], .int .i64 (s.nextE (s.nx ep k vs c q))]) ∧ Below w.heap.size w w' := by
  have hb1 := below_alloc' w (.cells #[.int .u8 (bt (k) 0), .int .u8 (bt (k) 1), .int .u8 (bt (k) 2), .int .u8 (bt (k) 3), .int .u8 (bt (k) 4), .int .u8 (bt (k) 5), .int .u8 (bt (k) 6), .int .u8 (bt (k) 7)] 28)
  have hb2 := hb1.trans ((below_alloc' (w.alloc (.cells #[.int .u8 (bt (k) 0), .int .u8 (bt (k) 1), .int .u8 (bt (k) 2), .int .u8 (bt (k) 3), .int .u8 (bt (k) 4), .int .u8 (bt (k) 5), .int .u8 (bt (k) 6), .int .u8 (bt (k) 7)] 28)) (.cells #[.int .i64 c, .int .i64 q] 30)).mono hb1.size)
  have hb0 := hb2.trans ((below_alloc' ((w.alloc (.cells #[.int .u8 (bt (k) 0), .int .u8 (bt (k) 1), .int .u8 (bt (k) 2), .int .u8 (bt (k) 3), .int .u8 (bt (k) 4), .int .u8 (bt (k) 5), .int .u8 (bt (k) 6), .int .u8 (bt (k) 7)] 28)).alloc (.cells #[.int .i64 c, .int .i64 q] 30)) (.cells #[.int .i64 0, .int .i64 0, .int .u8 0, .int .u8 0, .int .u8 0, .int .u8 0, .int .u8 0, .int .u8 0, .int .u8 0, .int .u8 0, .int .i64 0, .string ⟨#[]⟩, .int .i64 0, .int .i64 0] 64)).mono hb2.size)
  have hs1 : (w.alloc (.cells #[.int .u8 (bt (k) 0), .int .u8 (bt (k) 1), .int .u8 (bt (k) 2), .int .u8 (bt (k) 3), .int .u8 (bt (k) 4), .int .u8 (bt (k) 5), .int .u8 (bt (k) 6), .int .u8 (bt (k) 7)] 28)).heap.size = w.heap.size + 1 := by simp
  have hs2 : ((w.alloc (.cells #[.int .u8 (bt (k) 0), .int .u8 (bt (k) 1), .int .u8 (bt (k) 2), .int .u8 (bt (k) 3), .int .u8 (bt (k) 4), .int .u8 (bt (k) 5), .int .u8 (bt (k) 6), .int .u8 (bt (k) 7)] 28)).alloc (.cells #[.int .i64 c, .int .i64 q] 30)).heap.size = w.heap.size + 2 := by simp
  have hKy : At 28 (((w.alloc (.cells #[.int .u8 (bt (k) 0), .int .u8 (bt (k) 1), .int .u8 (bt (k) 2), .int .u8 (bt (k) 3), .int .u8 (bt (k) 4), .int .u8 (bt (k) 5), .int .u8 (bt (k) 6), .int .u8 (bt (k) 7)] 28)).alloc (.cells #[.int .i64 c, .int .i64 q] 30)).alloc (.cells #[.int .i64 0, .int .i64 0, .int .u8 0, .int .u8 0, .int .u8 0, .int .u8 0, .int .u8 0, .int .u8 0, .int .u8 0, .int .u8 0, .int .i64 0, .string ⟨#[]⟩, .int .i64 0, .int .i64 0] 64)) w.heap.size #[.int .u8 (bt (k) 0), .int .u8 (bt (k) 1), .int .u8 (bt (k) 2), .int .u8 (bt (k) 3), .int .u8 (bt (k) 4), .int .u8 (bt (k) 5), .int .u8 (bt (k) 6), .int .u8 (bt (k) 7)] := ((At.new _ w _).alloc _).alloc _
  have hRq : At 30 (((w.alloc (.cells #[.int .u8 (bt (k) 0), .int .u8 (bt (k) 1), .int .u8 (bt (k) 2), .int .u8 (bt (k) 3), .int .u8 (bt (k) 4), .int .u8 (bt (k) 5), .int .u8 (bt (k) 6), .int .u8 (bt (k) 7)] 28)).alloc (.cells #[.int .i64 c, .int .i64 q] 30)).alloc (.cells #[.int .i64 0, .int .i64 0, .int .u8 0, .int .u8 0, .int .u8 0, .int .u8 0, .int .u8 0, .int .u8 0, .int .u8 0, .int .u8 0, .int .i64 0, .string ⟨#[]⟩, .int .i64 0, .int .i64 0] 64)) (w.heap.size + 1) #[.int .i64 c, .int .i64 q] := by rw [← hs1]; exact (At.new _ _ _).alloc _
  have hBx : At 64 (((w.alloc (.cells #[.int .u8 (bt (k) 0), .int .u8 (bt (k) 1), .int .u8 (bt (k) 2), .int .u8 (bt (k) 3), .int .u8 (bt (k) 4), .int .u8 (bt (k) 5), .int .u8 (bt (k) 6), .int .u8 (bt (k) 7)] 28)).alloc (.cells #[.int .i64 c, .int .i64 q] 30)).alloc (.cells #[.int .i64 0, .int .i64 0, .int .u8 0, .int .u8 0, .int .u8 0, .int .u8 0, .int .u8 0, .int .u8 0, .int .u8 0, .int .u8 0, .int .i64 0, .string ⟨#[]⟩, .int .i64 0, .int .i64 0] 64)) (w.heap.size + 2) #[.int .i64 0, .int .i64 0, .int .u8 0, .int .u8 0, .int .u8 0, .int .u8 0, .int .u8 0, .int .u8 0, .int .u8 0, .int .u8 0, .int .i64 0, .string ⟨#[]⟩, .int .i64 0, .int .i64 0] := by rw [← hs2]; exact At.new _ _ _
  have hSh := h.below hb0
  have hT0 := hT.up hb0
  have hm := hSh.made
  have htop := h.inv.top k
  have hbig := h.inv.big
  have haix := h.inv.aix
  have hv1 : IntKind.i64.wrap (s.last + 1) = s.last + 1 := by rw [IntKind.wrap_i64]; omega
  have hv2 : IntKind.i64.wrap (((lookC (s.low.adds s.tail).cs k).getD .z0).v + 1) = ((lookC (s.low.adds s.tail).cs k).getD .z0).v + 1 := by rw [IntKind.wrap_i64]; omega
  have hgx : w.heap.size ≤ w.heap.size + 2 := Nat.le_add_right _ _
  clear hb1 hb2 hs1 hs2 h hT
  generalize hyy : s.nextR (s.nx ep k vs c q) = y
  generalize hrr : s.nextE (s.nx ep k vs c q) = r
  have HE0 : Hid (s.nextE (s.nx ep k vs c q) = r) := hrr
  have HR0 : Hid (s.nextR (s.nx ep k vs c q) = y) := hyy
  clear hyy hrr
  go_enter Tryd.func40, Tryd.ntmps40
  go_wp2_with fail
  generalize (((w.alloc (.cells #[.int .u8 (bt (k) 0), .int .u8 (bt (k) 1), .int .u8 (bt (k) 2), .int .u8 (bt (k) 3), .int .u8 (bt (k) 4), .int .u8 (bt (k) 5), .int .u8 (bt (k) 6), .int .u8 (bt (k) 7)] 28)).alloc (.cells #[.int .i64 c, .int .i64 q] 30)).alloc (.cells #[.int .i64 0, .int .i64 0, .int .u8 0, .int .u8 0, .int .u8 0, .int .u8 0, .int .u8 0, .int .u8 0, .int .u8 0, .int .u8 0, .int .i64 0, .string ⟨#[]⟩, .int .i64 0, .int .i64 0] 64)) = V0 at *
  refine hm.mono ?_
  rintro e V1 ⟨rfl, rfl⟩
  clear hm
  go_wp2_with fail
  have hS0 : Bl V1 V1.drew := (Below.refl _ _).drew
  refine wp_region_det [0, 1, 2, 3, 4, 5, 6, 7, 8, 9, 10, 11, 12] (Bl V1) (Bl V1) (by kernel_rfl) hS0 ?_
  refine wpDet_take ?vW0 (Bl.stays V1) (fun _ h => h) (i := 0) rfl (by kernel_rfl) (by kernel_rfl) (by kernel_rfl) (by kernel_rfl) (fun _ _ _ h => h) (Gives.value (by rfl) ?yW0) ?rW0
  case yW0 => (intro w' hSw; (try dsimp only at hSw); go_simp; try with_reducible rfl)
  (try simp only [Act.put, List.getElem_toArray, List.getElem_cons_zero, List.getElem_cons_succ, List.setIfInBounds_toArray, List.set_cons_zero, List.set_cons_succ])
  refine wpDet_take (.int .i64 s.last) (Bl.stays V1) (fun _ h => h) (i := 1) rfl (by kernel_rfl) (by kernel_rfl) (by kernel_rfl) (by kernel_rfl) (fun _ _ _ h => h) (Gives.call 49 #[.pointer (some ⟨g, 0, none⟩)] (by rfl) (fun _ => by first | (go_simp; done) | (go_simp; rfl)) (fun W hW => (last_any (hSh.below hW)).mono fun e w' ⟨h1, h2⟩ => ⟨h1, h2⟩)) ?_
  (try simp only [Act.put, List.getElem_toArray, List.getElem_cons_zero, List.getElem_cons_succ, List.setIfInBounds_toArray, List.set_cons_zero, List.set_cons_succ])
  refine wpDet_take (.int .i64 (s.last + 1)) (Bl.stays V1) (fun _ h => h) (i := 2) rfl (by kernel_rfl) (by kernel_rfl) (by kernel_rfl) (by kernel_rfl) (fun _ _ _ h => h) (Gives.value (by rfl) ?yW2) ?rW2
  case yW2 => (intro w' hSw; (try dsimp only at hSw); go_simp; try exact hv1)
  (try simp only [Act.put, List.getElem_toArray, List.getElem_cons_zero, List.getElem_cons_succ, List.setIfInBounds_toArray, List.set_cons_zero, List.set_cons_succ])
  refine wpDet_take ?vW3 (Bl.stays V1) (fun _ h => h) (i := 3) rfl (by kernel_rfl) (by kernel_rfl) (by kernel_rfl) (by kernel_rfl) (fun _ _ _ h => h) (Gives.value (by rfl) ?yW3) ?rW3
  case yW3 => (intro w' hSw; (try dsimp only at hSw); go_simp; try with_reducible rfl)
  (try simp only [Act.put, List.getElem_toArray, List.getElem_cons_zero, List.getElem_cons_succ, List.setIfInBounds_toArray, List.set_cons_zero, List.set_cons_succ])
  refine wpDet_take ?vW4 (Bl.stays V1) (fun _ h => h) (i := 4) rfl (by kernel_rfl) (by kernel_rfl) (by kernel_rfl) (by kernel_rfl) (fun _ _ _ h => h) (Gives.value (by rfl) ?yW4) ?rW4
  case yW4 => (intro w' hSw; have kk := At.below hKy (show Below V1.heap.size V1 w' from hSw); have q0 := At.cell kk 0; have q1 := At.cell kk 1; have q2 := At.cell kk 2; have q3 := At.cell kk 3; have q4 := At.cell kk 4; have q5 := At.cell kk 5; have q6 := At.cell kk 6; have q7 := At.cell kk 7; simp only [List.getElem?_toArray, List.getElem?_cons_zero, List.getElem?_cons_succ] at q0 q1 q2 q3 q4 q5 q6 q7; (try dsimp only at hSw); go_simp; try with_reducible rfl)
  (try simp only [Act.put, List.getElem_toArray, List.getElem_cons_zero, List.getElem_cons_succ, List.setIfInBounds_toArray, List.set_cons_zero, List.set_cons_succ])
  refine wpDet_take ?vW5 (Bl.stays V1) (fun _ h => h) (i := 5) rfl (by kernel_rfl) (by kernel_rfl) (by kernel_rfl) (by kernel_rfl) (fun _ _ _ h => h) (Gives.value (by rfl) ?yW5) ?rW5
  case yW5 => (intro w' hSw; (try dsimp only at hSw); go_simp; try with_reducible rfl)
  (try simp only [Act.put, List.getElem_toArray, List.getElem_cons_zero, List.getElem_cons_succ, List.setIfInBounds_toArray, List.set_cons_zero, List.set_cons_succ])
  refine wpDet_take ?vW6 (Bl.stays V1) (fun _ h => h) (i := 6) rfl (by kernel_rfl) (by kernel_rfl) (by kernel_rfl) (by kernel_rfl) (fun _ _ _ h => h) (Gives.value (by rfl) ?yW6) ?rW6
  case yW6 => (intro w' hSw; have kk := At.below hKy (show Below V1.heap.size V1 w' from hSw); have q0 := At.cell kk 0; have q1 := At.cell kk 1; have q2 := At.cell kk 2; have q3 := At.cell kk 3; have q4 := At.cell kk 4; have q5 := At.cell kk 5; have q6 := At.cell kk 6; have q7 := At.cell kk 7; simp only [List.getElem?_toArray, List.getElem?_cons_zero, List.getElem?_cons_succ] at q0 q1 q2 q3 q4 q5 q6 q7; (try dsimp only at hSw); go_simp; try with_reducible rfl)
  (try simp only [Act.put, List.getElem_toArray, List.getElem_cons_zero, List.getElem_cons_succ, List.setIfInBounds_toArray, List.set_cons_zero, List.set_cons_succ])
  refine wpDet_take (.agg #[.int .u8 (bt ((lookC (s.low.adds s.tail).cs k).getD .z0).k 0), .int .u8 (bt ((lookC (s.low.adds s.tail).cs k).getD .z0).k 1), .int .u8 (bt ((lookC (s.low.adds s.tail).cs k).getD .z0).k 2), .int .u8 (bt ((lookC (s.low.adds s.tail).cs k).getD .z0).k 3), .int .u8 (bt ((lookC (s.low.adds s.tail).cs k).getD .z0).k 4), .int .u8 (bt ((lookC (s.low.adds s.tail).cs k).getD .z0).k 5), .int .u8 (bt ((lookC (s.low.adds s.tail).cs k).getD .z0).k 6), .int .u8 (bt ((lookC (s.low.adds s.tail).cs k).getD .z0).k 7), .int .i64 ((lookC (s.low.adds s.tail).cs k).getD .z0).v, .string ((lookC (s.low.adds s.tail).cs k).getD .z0).s]) (Bl.stays V1) (fun _ h => h) (i := 7) rfl (by kernel_rfl) (by kernel_rfl) (by kernel_rfl) (by kernel_rfl) (fun _ _ _ h => h) (Gives.call 29 #[.pointer (some ⟨g, 0, none⟩), .agg #[.int .u8 (bt (k) 0), .int .u8 (bt (k) 1), .int .u8 (bt (k) 2), .int .u8 (bt (k) 3), .int .u8 (bt (k) 4), .int .u8 (bt (k) 5), .int .u8 (bt (k) 6), .int .u8 (bt (k) 7)]] (by rfl) (fun _ => by first | (go_simp; done) | (go_simp; rfl)) (fun W hW => (top_any (hSh.below hW) k hk).mono fun e w' ⟨h1, h2⟩ => ⟨h1, h2⟩)) ?_
  (try simp only [Act.put, List.getElem_toArray, List.getElem_cons_zero, List.getElem_cons_succ, List.setIfInBounds_toArray, List.set_cons_zero, List.set_cons_succ])
  refine wpDet_take (.int .i64 ((lookC (s.low.adds s.tail).cs k).getD .z0).v) (Bl.stays V1) (fun _ h => h) (i := 8) rfl (by kernel_rfl) (by kernel_rfl) (by kernel_rfl) (by kernel_rfl) (fun _ _ _ h => h) (Gives.value (by rfl) ?yW8) ?rW8
  case yW8 => (intro w' hSw; have hfc := field_cel ((lookC (s.low.adds s.tail).cs k).getD .z0); (try dsimp only at hSw); go_simp; try with_reducible rfl)
  (try simp only [Act.put, List.getElem_toArray, List.getElem_cons_zero, List.getElem_cons_succ, List.setIfInBounds_toArray, List.set_cons_zero, List.set_cons_succ])
  refine wpDet_take (.int .i64 (((lookC (s.low.adds s.tail).cs k).getD .z0).v + 1)) (Bl.stays V1) (fun _ h => h) (i := 9) rfl (by kernel_rfl) (by kernel_rfl) (by kernel_rfl) (by kernel_rfl) (fun _ _ _ h => h) (Gives.value (by rfl) ?yW9) ?rW9
  case yW9 => (intro w' hSw; (try dsimp only at hSw); go_simp; try exact hv2)
  (try simp only [Act.put, List.getElem_toArray, List.getElem_cons_zero, List.getElem_cons_succ, List.setIfInBounds_toArray, List.set_cons_zero, List.set_cons_succ])
  refine wpDet_take ?vW10 (Bl.stays V1) (fun _ h => h) (i := 10) rfl (by kernel_rfl) (by kernel_rfl) (by kernel_rfl) (by kernel_rfl) (fun _ _ _ h => h) (Gives.value (by rfl) ?yW10) ?rW10
  case yW10 => (intro w' hSw; (try dsimp only at hSw); go_simp; try with_reducible rfl)
  (try simp only [Act.put, List.getElem_toArray, List.getElem_cons_zero, List.getElem_cons_succ, List.setIfInBounds_toArray, List.set_cons_zero, List.set_cons_succ])
  refine wpDet_take ?vW11 (Bl.stays V1) (fun _ h => h) (i := 11) rfl (by kernel_rfl) (by kernel_rfl) (by kernel_rfl) (by kernel_rfl) (fun _ _ _ h => h) (Gives.value (by rfl) ?yW11) ?rW11
  case yW11 => (intro w' hSw; have kk := At.below hRq (show Below V1.heap.size V1 w' from hSw); have q0 := At.cell kk 0; have q1 := At.cell kk 1; simp only [List.getElem?_toArray, List.getElem?_cons_zero, List.getElem?_cons_succ] at q0 q1; (try dsimp only at hSw); go_simp; try with_reducible rfl)
  (try simp only [Act.put, List.getElem_toArray, List.getElem_cons_zero, List.getElem_cons_succ, List.setIfInBounds_toArray, List.set_cons_zero, List.set_cons_succ])
  refine wpDet_take ?vW12 (Bl.stays V1) (fun _ h => h) (i := 12) rfl (by kernel_rfl) (by kernel_rfl) (by kernel_rfl) (by kernel_rfl) (fun _ _ _ h => h) (Gives.value (by rfl) ?yW12) ?rW12
  case yW12 => (intro w' hSw; (try dsimp only at hSw); go_simp; try with_reducible rfl)
  (try simp only [Act.put, List.getElem_toArray, List.getElem_cons_zero, List.getElem_cons_succ, List.setIfInBounds_toArray, List.set_cons_zero, List.set_cons_succ])
  refine wpDet_ready (rs := [13]) (by kernel_rfl) (by simp) (AllDet.cons rfl (fun V hV K hK => ?_) AllDet.nil)
  rw [if_pos (by rfl)]
  refine wp_value (.pointer (some ⟨V.heap.size, 0, none⟩)) (V.alloc (.cells #[.int .i64 0, .int .i64 0, .int .u8 0, .int .u8 0, .int .u8 0, .int .u8 0, .int .u8 0, .int .u8 0, .int .u8 0, .int .u8 0, .int .i64 0, .string ⟨#[]⟩, .int .i64 0, .int .i64 0] 64)) (by first | (go_simp; done) | (go_simp; rfl)) ?_
  have hz7 : NA V1 V.heap.size (V.alloc (.cells #[.int .i64 0, .int .i64 0, .int .u8 0, .int .u8 0, .int .u8 0, .int .u8 0, .int .u8 0, .int .u8 0, .int .u8 0, .int .u8 0, .int .i64 0, .string ⟨#[]⟩, .int .i64 0, .int .i64 0] 64)) := ⟨Bl.stays V1 V _ hV (below_alloc' _ _), At.new _ _ _, (Bl.out hV).size⟩
  refine hK.out (NA V1 V.heap.size) _ _ (NA.stays _ _) (fun _ _ h => h.1) hz7 ?_
  clear hK hz7
  obtain ⟨g5, hg5⟩ : ∃ g5, g5 = V.heap.size := ⟨_, rfl⟩
  rw [← hg5]
  clear hV hg5
  (try simp only [Act.put, List.getElem_toArray, List.getElem_cons_zero, List.getElem_cons_succ, List.setIfInBounds_toArray, List.set_cons_zero, List.set_cons_succ])
  refine wpDet_ready (rs := [14]) (by kernel_rfl) (by simp) (AllDet.cons rfl (fun V hV K hK => ?_) AllDet.nil)
  rw [if_pos (by rfl)]
  refine wp_store_row 64 _ _ rfl g5 #[.int .i64 (s.last + 1), .int .i64 ep, .int .u8 (bt (k) 0), .int .u8 (bt (k) 1), .int .u8 (bt (k) 2), .int .u8 (bt (k) 3), .int .u8 (bt (k) 4), .int .u8 (bt (k) 5), .int .u8 (bt (k) 6), .int .u8 (bt (k) 7), .int .i64 (((lookC (s.low.adds s.tail).cs k).getD .z0).v + 1), .string vs, .int .i64 c, .int .i64 q] rfl rfl _ _ hV.2.1 infoRc rfl (by simp [Value.oneCell']) ?_
  have hz9 : NB V1 g5 (s.nx ep k vs c q) (V.setRow g5 #[.int .i64 (s.last + 1), .int .i64 ep, .int .u8 (bt (k) 0), .int .u8 (bt (k) 1), .int .u8 (bt (k) 2), .int .u8 (bt (k) 3), .int .u8 (bt (k) 4), .int .u8 (bt (k) 5), .int .u8 (bt (k) 6), .int .u8 (bt (k) 7), .int .i64 (((lookC (s.low.adds s.tail).cs k).getD .z0).v + 1), .string vs, .int .i64 c, .int .i64 q]) := ⟨(Bl.out hV.1).trans (below_setRow V g5 _ hV.2.2), At.row hV.2.1 _, hV.2.2⟩
  refine hK.out (NB V1 g5 (s.nx ep k vs c q)) _ _ (NB.stays _ _ _) (fun _ _ h => h.1) hz9 ?_
  clear hK K hV hz9
  (try simp only [Act.put, List.getElem_toArray, List.getElem_cons_zero, List.getElem_cons_succ, List.setIfInBounds_toArray, List.set_cons_zero, List.set_cons_succ])
  refine wpDet_done (by kernel_rfl) (fun W1 hV => ?_) _
  obtain ⟨hbl1, hX1, hg5⟩ := hV
  have hb1 := hb0.trans ((Bl.out hbl1).mono hb0.size)
  have hSh1 := hSh.below (Bl.out hbl1)
  have hBx1 := At.below hBx (Bl.out hbl1)
  have hT1 := hT0.up (Bl.out hbl1)
  have hlt := At.lt hBx
  have hgne : g5 ≠ w.heap.size + 2 := by omega
  clear hSh hBx hKy hRq hS0 hbl1 hT0 hv1 hv2 hb0 hlt hg5
  have hSt := stands_any hSh1 (s.nx ep k vs c q) hk hvs hT1 (by rw [haix]; omega) (by show -9223372036854775808 ≤ ((lookC (s.low.adds s.tail).cs k).getD .z0).v + 1 ∧ ((lookC (s.low.adds s.tail).cs k).getD .z0).v + 1 ≤ 9223372036854775807; omega)
  have HE : Hid (r = if (s.low.adds s.tail).stands (s.nx ep k vs c q) ≠ 0 then (s.low.adds s.tail).stands (s.nx ep k vs c q) else if 8 ≤ s.last - s.com then 7 else 0) := HE0.out.symm
  have HR : Hid (y = if r = 0 then (s.nx ep k vs c q) else .z0) := by unfold Hid; rw [← HR0.out, ← HE0.out]; rfl
  clear HE0 HR0
  have hDi := fun W (hW : Below W1.heap.size W1 W) => dirty_any (hSh1.below hW)
  have hgb := hSh1.inv
  generalize (s.low.adds s.tail).stands (s.nx ep k vs c q) = r1 at *
  obtain ⟨x, hx⟩ : ∃ x, x = (s.nx ep k vs c q) := ⟨_, rfl⟩
  rw [← hx] at hX1 hSt HR
  clear hx htop haix
  obtain ⟨x0, x1, x2, x3, x4, x5, x6, x7, x8, x9, x10, x11, x12, x13⟩ := rec_box hX1
  go_wp2_with fail
  refine hSt.mono ?_
  rintro e W2 ⟨rfl, hb2⟩
  have hbb2 := hb1.trans (hb2.mono hb1.size)
  have hBx2 := At.below hBx1 hb2
  have hX2 := At.below hX1 hb2
  have hDi2 := hDi W2 hb2
  clear hSt hDi x0 x1 x2 x3 x4 x5 x6 x7 x8 x9 x10 x11 x12 x13 hX1 hBx1
  by_cases c1 : r1 = 0
  · subst c1
    have HE2 : Hid (r = if 8 ≤ s.last - s.com then 7 else 0) := by unfold Hid; rw [HE.out, if_neg (fun h => h rfl)]
    clear HE
    go_wp2_with fail
    refine hDi2.mono ?_
    rintro e W3 ⟨rfl, hb3⟩
    have hbb3 := hbb2.trans (hb3.mono hbb2.size)
    have hBx3 := At.below hBx2 hb3
    have hX3 := At.below hX2 hb3
    clear hDi2 hBx2 hX2
    generalize s.last - s.com = dd at *
    by_cases c2 : 8 ≤ dd
    · have HN : Hid (r = 7 ∧ y = .z0) := by
        unfold Hid
        have e1 : r = 7 := by rw [HE2.out, if_pos c2]
        exact ⟨e1, by rw [HR.out, if_neg (by rw [e1]; decide)]⟩
      clear HE2 HR
      have hbw := hbb3.trans (below_setRow (B := w.heap.size) W3 (w.heap.size + 2) #[.int .i64 0, .int .i64 0, .int .u8 0, .int .u8 0, .int .u8 0, .int .u8 0, .int .u8 0, .int .u8 0, .int .u8 0, .int .u8 0, .int .i64 0, .string ⟨#[]⟩, .int .i64 0, .int .i64 0] hgx)
      have hAw := hBx3.row #[.int .i64 0, .int .i64 0, .int .u8 0, .int .u8 0, .int .u8 0, .int .u8 0, .int .u8 0, .int .u8 0, .int .u8 0, .int .u8 0, .int .i64 0, .string ⟨#[]⟩, .int .i64 0, .int .i64 0]
      go_wp2_with (refine wpList_store_row rfl 64 _ _ rfl (w.heap.size + 2) #[.int .i64 0, .int .i64 0, .int .u8 0, .int .u8 0, .int .u8 0, .int .u8 0, .int .u8 0, .int .u8 0, .int .u8 0, .int .u8 0, .int .i64 0, .string ⟨#[]⟩, .int .i64 0, .int .i64 0] rfl rfl _ _ hBx3 infoRc rfl (by simp [Value.oneCell']) ?_)
      obtain ⟨rfl, rfl⟩ := HN.out
      exact bodyPost_ret (results_row_tmp rfl _ _ (w.heap.size + 2) _ _ _ rfl hAw Tryd.underlying64 rfl infoRc) rfl ⟨by rw [recZ]; rfl, hbw⟩
    · have HN : Hid (r = 0 ∧ y = x) := by
        unfold Hid
        have e1 : r = 0 := by rw [HE2.out, if_neg c2]
        exact ⟨e1, by rw [HR.out, if_pos e1]⟩
      clear HE2 HR
      have hbw := hbb3.trans (below_setRow (B := w.heap.size) W3 (w.heap.size + 2) #[.int .i64 x.ix, .int .i64 x.ep, .int .u8 (bt x.k 0), .int .u8 (bt x.k 1), .int .u8 (bt x.k 2), .int .u8 (bt x.k 3), .int .u8 (bt x.k 4), .int .u8 (bt x.k 5), .int .u8 (bt x.k 6), .int .u8 (bt x.k 7), .int .i64 x.v, .string x.s, .int .i64 x.c, .int .i64 x.q] hgx)
      have hAw := hBx3.row #[.int .i64 x.ix, .int .i64 x.ep, .int .u8 (bt x.k 0), .int .u8 (bt x.k 1), .int .u8 (bt x.k 2), .int .u8 (bt x.k 3), .int .u8 (bt x.k 4), .int .u8 (bt x.k 5), .int .u8 (bt x.k 6), .int .u8 (bt x.k 7), .int .i64 x.v, .string x.s, .int .i64 x.c, .int .i64 x.q]
      go_wp2_with (first | refine wpList_load_row rfl 64 _ rfl g5 rfl _ _ _ _ hX3 Tryd.underlying64 rfl infoRc ?_ | refine wpList_store_row rfl 64 _ _ rfl (w.heap.size + 2) #[.int .i64 x.ix, .int .i64 x.ep, .int .u8 (bt x.k 0), .int .u8 (bt x.k 1), .int .u8 (bt x.k 2), .int .u8 (bt x.k 3), .int .u8 (bt x.k 4), .int .u8 (bt x.k 5), .int .u8 (bt x.k 6), .int .u8 (bt x.k 7), .int .i64 x.v, .string x.s, .int .i64 x.c, .int .i64 x.q] rfl rfl _ _ hBx3 infoRc rfl (by simp [Value.oneCell']) ?_)
      obtain ⟨rfl, rfl⟩ := HN.out
      exact bodyPost_ret (results_row_tmp rfl _ _ (w.heap.size + 2) _ _ _ rfl hAw Tryd.underlying64 rfl infoRc) rfl ⟨rfl, hbw⟩
  · have HN : Hid (r = r1 ∧ y = .z0) := by
      unfold Hid
      have e1 : r = r1 := by rw [HE.out, if_pos c1]
      exact ⟨e1, by rw [HR.out, if_neg (by rw [e1]; exact c1)]⟩
    clear HE HR hDi2
    have hbw := hbb2.trans (below_setRow (B := w.heap.size) W2 (w.heap.size + 2) #[.int .i64 0, .int .i64 0, .int .u8 0, .int .u8 0, .int .u8 0, .int .u8 0, .int .u8 0, .int .u8 0, .int .u8 0, .int .u8 0, .int .i64 0, .string ⟨#[]⟩, .int .i64 0, .int .i64 0] hgx)
    have hAw := hBx2.row #[.int .i64 0, .int .i64 0, .int .u8 0, .int .u8 0, .int .u8 0, .int .u8 0, .int .u8 0, .int .u8 0, .int .u8 0, .int .u8 0, .int .i64 0, .string ⟨#[]⟩, .int .i64 0, .int .i64 0]
    go_wp2_with (refine wpList_store_row rfl 64 _ _ rfl (w.heap.size + 2) #[.int .i64 0, .int .i64 0, .int .u8 0, .int .u8 0, .int .u8 0, .int .u8 0, .int .u8 0, .int .u8 0, .int .u8 0, .int .u8 0, .int .i64 0, .string ⟨#[]⟩, .int .i64 0, .int .i64 0] rfl rfl _ _ hBx2 infoRc rfl (by simp [Value.oneCell']) ?_)
    obtain ⟨rfl, rfl⟩ := HN.out
    exact bodyPost_ret (results_row_tmp rfl _ _ (w.heap.size + 2) _ _ _ rfl hAw Tryd.underlying64 rfl infoRc) rfl ⟨by rw [recZ]; rfl, hbw⟩

end Go.Proofs.YtnbgdkdnlfomeaaDoor.M
