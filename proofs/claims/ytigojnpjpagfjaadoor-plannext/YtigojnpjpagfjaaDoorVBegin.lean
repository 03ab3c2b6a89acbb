/-
  Own text: a plan's beginning, and the program's Next.
-/
import Derived.Test.YtigojnpjpagfjaaDoorVReady
namespace Go.Proofs.YtigojnpjpagfjaaDoor.M
open Go.ChangeShapes Go.WideShapes Go.ChangeAt Go.RowKit

theorem sizeSt : (Tryd.prog.info? 72).map (·.size) = some 12 := by kernel_rfl

theorem results_st {fn : Func} {p u : Tmp} (h : fn.results = #[.cell p 72, .tmp u]) (tmps : Array Value) (w : World) (g : Nat) (cs : Array Value) (hs : cs.size = 12) (hp : tmps.getD p undef = .pointer (some ⟨g, 0, none⟩)) (hg : At 72 w g cs) :
    (results fn tmps).run Tryd.prog w = .ok (.tuple #[.agg cs, tmps.getD u undef]) w :=
  results_row_tmp h tmps w g 72 cs _ hp hg Tryd.underlying72 rfl (by rw [hs]; exact sizeSt)

theorem At.put12 {t : TypeId} {w : World} {g : Nat} {x0 x1 x2 x3 x4 x5 x6 x7 x8 x9 x10 x11 : Value} (h : At t w g #[x0, x1, x2, x3, x4, x5, x6, x7, x8, x9, x10, x11]) (y0 y1 y2 y3 y4 y5 y6 y7 y8 y9 y10 y11 : Value) :
    At t ((((((((((((w.setCell ⟨g, 0, none⟩ y0).setCell ⟨g, 1, none⟩ y1).setCell ⟨g, 2, none⟩ y2).setCell ⟨g, 3, none⟩ y3).setCell ⟨g, 4, none⟩ y4).setCell ⟨g, 5, none⟩ y5).setCell ⟨g, 6, none⟩ y6).setCell ⟨g, 7, none⟩ y7).setCell ⟨g, 8, none⟩ y8).setCell ⟨g, 9, none⟩ y9).setCell ⟨g, 10, none⟩ y10).setCell ⟨g, 11, none⟩ y11) g #[y0, y1, y2, y3, y4, y5, y6, y7, y8, y9, y10, y11] := by
  have h0 : At t _ g #[y0, x1, x2, x3, x4, x5, x6, x7, x8, x9, x10, x11] := h.set 0 y0
  have h1 : At t _ g #[y0, y1, x2, x3, x4, x5, x6, x7, x8, x9, x10, x11] := h0.set 1 y1
  have h2 : At t _ g #[y0, y1, y2, x3, x4, x5, x6, x7, x8, x9, x10, x11] := h1.set 2 y2
  have h3 : At t _ g #[y0, y1, y2, y3, x4, x5, x6, x7, x8, x9, x10, x11] := h2.set 3 y3
  have h4 : At t _ g #[y0, y1, y2, y3, y4, x5, x6, x7, x8, x9, x10, x11] := h3.set 4 y4
  have h5 : At t _ g #[y0, y1, y2, y3, y4, y5, x6, x7, x8, x9, x10, x11] := h4.set 5 y5
  have h6 : At t _ g #[y0, y1, y2, y3, y4, y5, y6, x7, x8, x9, x10, x11] := h5.set 6 y6
  have h7 : At t _ g #[y0, y1, y2, y3, y4, y5, y6, y7, x8, x9, x10, x11] := h6.set 7 y7
  have h8 : At t _ g #[y0, y1, y2, y3, y4, y5, y6, y7, y8, x9, x10, x11] := h7.set 8 y8
  have h9 : At t _ g #[y0, y1, y2, y3, y4, y5, y6, y7, y8, y9, x10, x11] := h8.set 9 y9
  have h10 : At t _ g #[y0, y1, y2, y3, y4, y5, y6, y7, y8, y9, y10, x11] := h9.set 10 y10
  have h11 : At t _ g #[y0, y1, y2, y3, y4, y5, y6, y7, y8, y9, y10, y11] := h10.set 11 y11
  exact h11

theorem Below.put12 {B g : Nat} {w W : World} (h : Below B w W) (hb : B ≤ g) (y0 y1 y2 y3 y4 y5 y6 y7 y8 y9 y10 y11 : Value) :
    Below B w ((((((((((((W.setCell ⟨g, 0, none⟩ y0).setCell ⟨g, 1, none⟩ y1).setCell ⟨g, 2, none⟩ y2).setCell ⟨g, 3, none⟩ y3).setCell ⟨g, 4, none⟩ y4).setCell ⟨g, 5, none⟩ y5).setCell ⟨g, 6, none⟩ y6).setCell ⟨g, 7, none⟩ y7).setCell ⟨g, 8, none⟩ y8).setCell ⟨g, 9, none⟩ y9).setCell ⟨g, 10, none⟩ y10).setCell ⟨g, 11, none⟩ y11) :=
  (((((((((((h.setCell hb y0).setCell hb y1).setCell hb y2).setCell hb y3).setCell hb y4).setCell hb y5).setCell hb y6).setCell hb y7).setCell hb y8).setCell hb y9).setCell hb y10).setCell hb y11

theorem At.free12 {t : TypeId} {w : World} {g : Nat} {cs : Array Value} (h : At t w g cs) : (w.frozen? ⟨g, 0, none⟩ = false ∧ w.frozen? ⟨g, 1, none⟩ = false ∧ w.frozen? ⟨g, 2, none⟩ = false ∧ w.frozen? ⟨g, 3, none⟩ = false ∧ w.frozen? ⟨g, 4, none⟩ = false ∧ w.frozen? ⟨g, 5, none⟩ = false) ∧ w.frozen? ⟨g, 6, none⟩ = false ∧ w.frozen? ⟨g, 7, none⟩ = false ∧ w.frozen? ⟨g, 8, none⟩ = false ∧ w.frozen? ⟨g, 9, none⟩ = false ∧ w.frozen? ⟨g, 10, none⟩ = false ∧ w.frozen? ⟨g, 11, none⟩ = false := ⟨⟨h.free 0, h.free 1, h.free 2, h.free 3, h.free 4, h.free 5⟩, h.free 6, h.free 7, h.free 8, h.free 9, h.free 10, h.free 11⟩

theorem At.six {t : TypeId} {w : World} {g : Nat} {x0 x1 x2 x3 x4 x5 : Value} (h : At t w g #[x0, x1, x2, x3, x4, x5]) : w.cell? ⟨g, 0, none⟩ = some x0 ∧ w.cell? ⟨g, 1, none⟩ = some x1 ∧ w.cell? ⟨g, 2, none⟩ = some x2 ∧ w.cell? ⟨g, 3, none⟩ = some x3 ∧ w.cell? ⟨g, 4, none⟩ = some x4 ∧ w.cell? ⟨g, 5, none⟩ = some x5 := ⟨h.cell 0, h.cell 1, h.cell 2, h.cell 3, h.cell 4, h.cell 5⟩

theorem At.other12 {t : TypeId} {w : World} {g : Nat} {cs : Array Value} (h : At t w g cs) (b : Nat) (hne : b ≠ g) (y0 y1 y2 y3 y4 y5 y6 y7 y8 y9 y10 y11 : Value) :
    At t ((((((((((((w.setCell ⟨b, 0, none⟩ y0).setCell ⟨b, 1, none⟩ y1).setCell ⟨b, 2, none⟩ y2).setCell ⟨b, 3, none⟩ y3).setCell ⟨b, 4, none⟩ y4).setCell ⟨b, 5, none⟩ y5).setCell ⟨b, 6, none⟩ y6).setCell ⟨b, 7, none⟩ y7).setCell ⟨b, 8, none⟩ y8).setCell ⟨b, 9, none⟩ y9).setCell ⟨b, 10, none⟩ y10).setCell ⟨b, 11, none⟩ y11) g cs :=
  (((((((((((h.other b 0 y0 hne).other b 1 y1 hne).other b 2 y2 hne).other b 3 y3 hne).other b 4 y4 hne).other b 5 y5 hne).other b 6 y6 hne).other b 7 y7 hne).other b 8 y8 hne).other b 9 y9 hne).other b 10 y10 hne).other b 11 y11 hne

/-- The boxes of begin: the chain, homes, wishes; and of the state. -/
def Bc (b : Nat) (e : Int) (p : Option Addr) (n c : Nat) (h0 h1 h2 h3 h4 h5 v0 v1 v2 : Int) (W : World) : Prop := At 28 W b #[.int .i64 e, .slice p n c] ∧ At 23 W (b + 1) #[.int .i64 h0, .int .i64 h1, .int .i64 h2, .int .i64 h3, .int .i64 h4, .int .i64 h5] ∧ At 25 W (b + 2) #[.int .i64 v0, .int .i64 v1, .int .i64 v2]

def Bs (w1 : World) (cs : Array Value) (b : Nat) (e : Int) (p : Option Addr) (n c : Nat) (h0 h1 h2 h3 h4 h5 v0 v1 v2 : Int) (W : World) : Prop := Bc b e p n c h0 h1 h2 h3 h4 h5 v0 v1 v2 W ∧ At 72 W (b + 3) cs ∧ Below (b + 3) w1 W

theorem Bs.stays (w1 : World) (cs : Array Value) (b : Nat) (e : Int) (p : Option Addr) (n c : Nat) (h0 h1 h2 h3 h4 h5 v0 v1 v2 : Int) : Stays (Bs w1 cs b e p n c h0 h1 h2 h3 h4 h5 v0 v1 v2) := fun _ _ h hb => ⟨⟨h.1.1.below hb, h.1.2.1.below hb, h.1.2.2.below hb⟩, h.2.1.below hb, h.2.2.trans (hb.mono (Nat.le_of_lt h.2.1.lt))⟩

theorem there12 {w : World} {g : Nat} {cs : Array Value} (h : At 72 w g cs) (hs : cs.size = 12) : w.there g 0 12 := fun j hj => by
  rw [Nat.zero_add]
  refine ⟨?_, h.free j⟩
  rw [h.cell j]
  simp [hs, hj]

theorem one12 {e : Int} {p : Option Addr} {n c al : Nat} {h0 h1 h2 h3 h4 h5 v0 v1 v2 : Int} : (#[Value.int .i64 e, .slice p n c, .int .u64 (al : Int), .int .i64 h0, .int .i64 h1, .int .i64 h2, .int .i64 h3, .int .i64 h4, .int .i64 h5, .int .i64 v0, .int .i64 v1, .int .i64 v2].all (·.oneCell')) = true := by
  simp [Value.oneCell']

/-- What begin answers besides: the state, or the zero one. -/
def begV (ok : Bool) (e : Int) (p : Option Addr) (n c al : Nat) (h0 h1 h2 h3 h4 h5 v0 v1 v2 : Int) : Value :=
  if ok then .agg #[.int .i64 e, .slice p n c, .int .u64 (al : Int), .int .i64 h0, .int .i64 h1, .int .i64 h2, .int .i64 h3, .int .i64 h4, .int .i64 h5, .int .i64 v0, .int .i64 v1, .int .i64 v2] else .agg #[.int .i64 0, .slice none 0 0, .int .u64 0, .int .i64 0, .int .i64 0, .int .i64 0, .int .i64 0, .int .i64 0, .int .i64 0, .int .i64 0, .int .i64 0, .int .i64 0]

set_option maxRecDepth 20000 in
set_option maxHeartbeats 4000000 in
theorem begin_no (e : Int) (p : Option Addr) (n c : Nat) (ms : List Mb) (al : Nat) (h0 h1 h2 h3 h4 h5 v0 v1 v2 : Int) (w : World) (hr : RdM w p n c ms) (hn : n ≤ 5864062014805) (hk : chk e ms = false) :
    Calls Tryd.prog 38 #[.agg #[.int .i64 e, .slice p n c], .int .u64 (al : Int), .agg #[.int .i64 h0, .int .i64 h1, .int .i64 h2, .int .i64 h3, .int .i64 h4, .int .i64 h5], .agg #[.int .i64 v0, .int .i64 v1, .int .i64 v2]] w fun r w' => r = .returned (.tuple #[.agg #[.int .i64 0, .slice none 0 0, .int .u64 0, .int .i64 0, .int .i64 0, .int .i64 0, .int .i64 0, .int .i64 0, .int .i64 0, .int .i64 0, .int .i64 0, .int .i64 0], .int .i64 80]) ∧ Below w.heap.size w w' := by
  have hb0 : Below w.heap.size w ((((w.alloc (.cells #[.int .i64 e, .slice p n c] 28)).alloc (.cells #[.int .i64 h0, .int .i64 h1, .int .i64 h2, .int .i64 h3, .int .i64 h4, .int .i64 h5] 23)).alloc (.cells #[.int .i64 v0, .int .i64 v1, .int .i64 v2] 25)).alloc (.cells #[.int .i64 0, .slice none 0 0, .int .u64 0, .int .i64 0, .int .i64 0, .int .i64 0, .int .i64 0, .int .i64 0, .int .i64 0, .int .i64 0, .int .i64 0, .int .i64 0] 72)) := ((((Below.refl _ _).alloc (Nat.le_refl _) _).alloc (by simp) _).alloc (by simp; omega) _).alloc (by simp; omega) _
  have hS : At 72 ((((w.alloc (.cells #[.int .i64 e, .slice p n c] 28)).alloc (.cells #[.int .i64 h0, .int .i64 h1, .int .i64 h2, .int .i64 h3, .int .i64 h4, .int .i64 h5] 23)).alloc (.cells #[.int .i64 v0, .int .i64 v1, .int .i64 v2] 25)).alloc (.cells #[.int .i64 0, .slice none 0 0, .int .u64 0, .int .i64 0, .int .i64 0, .int .i64 0, .int .i64 0, .int .i64 0, .int .i64 0, .int .i64 0, .int .i64 0, .int .i64 0] 72)) (w.heap.size + 3) #[.int .i64 0, .slice none 0 0, .int .u64 ((0 : Nat) : Int), .int .i64 0, .int .i64 0, .int .i64 0, .int .i64 0, .int .i64 0, .int .i64 0, .int .i64 0, .int .i64 0, .int .i64 0] := At.moved (by simp) (At.new 72 _ _)
  have hr0 := hr.below hb0
  have hC := Check_any e p n c ms _ hr0 hn
  rw [hk] at hC
  unfold chkV at hC
  simp only [Bool.false_eq_true, if_false] at hC
  clear hr hr0
  generalize hw : w.heap.size = b at *
  go_enter Tryd.func38, Tryd.ntmps38
  go_wp2_with fail
  refine hC.mono ?_
  rintro r w1 ⟨rfl, hb1⟩
  have hS1 := hS.below hb1
  have hB1 := hb0.trans (hb1.mono (by have := hb0.size; omega))
  obtain ⟨a0, a1, a2, ⟨a3, a4, a5, a6, a7, a8⟩, a9, a10, a11⟩ := hS1.state
  obtain ⟨⟨f0, f1, f2, f3, f4, f5⟩, f6, f7, f8, f9, f10, f11⟩ := hS1.free12
  clear hC hS hb0 hb1
  go_wp2_with fail
  exact bodyPost_ret (results_st (p := 8) (u := 9) rfl _ _ (b + 3) _ rfl rfl (hS1.put12 _ _ _ _ _ _ _ _ _ _ _ _)) rfl ⟨rfl, Below.put12 hB1 (by omega) _ _ _ _ _ _ _ _ _ _ _ _⟩

set_option linter.unusedSimpArgs false in
set_option maxRecDepth 20000 in
set_option maxHeartbeats 4000000 in
theorem begin_ok (e : Int) (p : Option Addr) (n c : Nat) (ms : List Mb) (al : Nat) (h0 h1 h2 h3 h4 h5 v0 v1 v2 : Int) (w : World) (hr : RdM w p n c ms) (hn : n ≤ 5864062014805) (hk : chk e ms = true) :
    Calls Tryd.prog 38 #[.agg #[.int .i64 e, .slice p n c], .int .u64 (al : Int), .agg #[.int .i64 h0, .int .i64 h1, .int .i64 h2, .int .i64 h3, .int .i64 h4, .int .i64 h5], .agg #[.int .i64 v0, .int .i64 v1, .int .i64 v2]] w fun r w' => r = .returned (.tuple #[.agg #[.int .i64 e, .slice p n c, .int .u64 (al : Int), .int .i64 h0, .int .i64 h1, .int .i64 h2, .int .i64 h3, .int .i64 h4, .int .i64 h5, .int .i64 v0, .int .i64 v1, .int .i64 v2], planV (planC [h0, h1, h2, h3, h4, h5] [v0, v1, v2])]) ∧ Below w.heap.size w w' := by
  have hb0 : Below w.heap.size w ((((w.alloc (.cells #[.int .i64 e, .slice p n c] 28)).alloc (.cells #[.int .i64 h0, .int .i64 h1, .int .i64 h2, .int .i64 h3, .int .i64 h4, .int .i64 h5] 23)).alloc (.cells #[.int .i64 v0, .int .i64 v1, .int .i64 v2] 25)).alloc (.cells #[.int .i64 0, .slice none 0 0, .int .u64 0, .int .i64 0, .int .i64 0, .int .i64 0, .int .i64 0, .int .i64 0, .int .i64 0, .int .i64 0, .int .i64 0, .int .i64 0] 72)) := ((((Below.refl _ _).alloc (Nat.le_refl _) _).alloc (by simp) _).alloc (by simp; omega) _).alloc (by simp; omega) _
  have hS : At 72 ((((w.alloc (.cells #[.int .i64 e, .slice p n c] 28)).alloc (.cells #[.int .i64 h0, .int .i64 h1, .int .i64 h2, .int .i64 h3, .int .i64 h4, .int .i64 h5] 23)).alloc (.cells #[.int .i64 v0, .int .i64 v1, .int .i64 v2] 25)).alloc (.cells #[.int .i64 0, .slice none 0 0, .int .u64 0, .int .i64 0, .int .i64 0, .int .i64 0, .int .i64 0, .int .i64 0, .int .i64 0, .int .i64 0, .int .i64 0, .int .i64 0] 72)) (w.heap.size + 3) #[.int .i64 0, .slice none 0 0, .int .u64 ((0 : Nat) : Int), .int .i64 0, .int .i64 0, .int .i64 0, .int .i64 0, .int .i64 0, .int .i64 0, .int .i64 0, .int .i64 0, .int .i64 0] := At.moved (by simp) (At.new 72 _ _)
  have hX : At 28 ((((w.alloc (.cells #[.int .i64 e, .slice p n c] 28)).alloc (.cells #[.int .i64 h0, .int .i64 h1, .int .i64 h2, .int .i64 h3, .int .i64 h4, .int .i64 h5] 23)).alloc (.cells #[.int .i64 v0, .int .i64 v1, .int .i64 v2] 25)).alloc (.cells #[.int .i64 0, .slice none 0 0, .int .u64 0, .int .i64 0, .int .i64 0, .int .i64 0, .int .i64 0, .int .i64 0, .int .i64 0, .int .i64 0, .int .i64 0, .int .i64 0] 72)) w.heap.size #[.int .i64 e, .slice p n c] := (((At.new 28 w _).alloc _).alloc _).alloc _
  have hH : At 23 ((((w.alloc (.cells #[.int .i64 e, .slice p n c] 28)).alloc (.cells #[.int .i64 h0, .int .i64 h1, .int .i64 h2, .int .i64 h3, .int .i64 h4, .int .i64 h5] 23)).alloc (.cells #[.int .i64 v0, .int .i64 v1, .int .i64 v2] 25)).alloc (.cells #[.int .i64 0, .slice none 0 0, .int .u64 0, .int .i64 0, .int .i64 0, .int .i64 0, .int .i64 0, .int .i64 0, .int .i64 0, .int .i64 0, .int .i64 0, .int .i64 0] 72)) (w.heap.size + 1) #[.int .i64 h0, .int .i64 h1, .int .i64 h2, .int .i64 h3, .int .i64 h4, .int .i64 h5] := At.moved (by simp) (((At.new 23 _ _).alloc _).alloc _)
  have hV : At 25 ((((w.alloc (.cells #[.int .i64 e, .slice p n c] 28)).alloc (.cells #[.int .i64 h0, .int .i64 h1, .int .i64 h2, .int .i64 h3, .int .i64 h4, .int .i64 h5] 23)).alloc (.cells #[.int .i64 v0, .int .i64 v1, .int .i64 v2] 25)).alloc (.cells #[.int .i64 0, .slice none 0 0, .int .u64 0, .int .i64 0, .int .i64 0, .int .i64 0, .int .i64 0, .int .i64 0, .int .i64 0, .int .i64 0, .int .i64 0, .int .i64 0] 72)) (w.heap.size + 2) #[.int .i64 v0, .int .i64 v1, .int .i64 v2] := At.moved (by simp) ((At.new 25 _ _).alloc _)
  have hr0 := hr.below hb0
  have hC := Check_any e p n c ms _ hr0 hn
  have hPc := fun W => pCheck_any h0 h1 h2 h3 h4 h5 v0 v1 v2 W
  rw [hk] at hC
  unfold chkV at hC
  simp only [if_true] at hC
  unfold planV at hPc ⊢
  generalize planC [h0, h1, h2, h3, h4, h5] [v0, v1, v2] = pc at *
  generalize (if pc = true then (0 : Int) else 1) = pe at *
  clear hr hr0
  generalize hw : w.heap.size = b at *
  go_enter Tryd.func38, Tryd.ntmps38
  go_wp2_with fail
  refine hC.mono ?_
  rintro r w1 ⟨rfl, hb1⟩
  have hS1 := hS.below hb1
  have hX1 := hX.below hb1
  have hH1 := hH.below hb1
  have hV1 := hV.below hb1
  have hB1 := hb0.trans (hb1.mono (by have := hb0.size; omega))
  have hlt1 : b + 3 < w1.heap.size := hS1.lt
  clear hC hS hb0 hb1 hX hH hV
  obtain ⟨x0, x1⟩ := hX1.two
  obtain ⟨m0, m1, m2, m3, m4, m5⟩ := hH1.six
  obtain ⟨n0, n1, n2⟩ := hV1.three
  obtain ⟨a0, a1, a2, ⟨a3, a4, a5, a6, a7, a8⟩, a9, a10, a11⟩ := hS1.state
  obtain ⟨⟨f0, f1, f2, f3, f4, f5⟩, f6, f7, f8, f9, f10, f11⟩ := hS1.free12
  go_wp2_with fail
  have hS0 : Bs w1 #[.int .i64 0, .slice none 0 0, .int .u64 ((0 : Nat) : Int), .int .i64 0, .int .i64 0, .int .i64 0, .int .i64 0, .int .i64 0, .int .i64 0, .int .i64 0, .int .i64 0, .int .i64 0] b e p n c h0 h1 h2 h3 h4 h5 v0 v1 v2 w1.drew := ⟨⟨hX1, hH1, hV1⟩, hS1, (Below.refl _ _).drew⟩
  refine wp_region_det [0, 1, 2, 3, 4, 5, 6, 7, 9] (Bc b e p n c h0 h1 h2 h3 h4 h5 v0 v1 v2) (Bs w1 #[.int .i64 0, .slice none 0 0, .int .u64 ((0 : Nat) : Int), .int .i64 0, .int .i64 0, .int .i64 0, .int .i64 0, .int .i64 0, .int .i64 0, .int .i64 0, .int .i64 0, .int .i64 0] b e p n c h0 h1 h2 h3 h4 h5 v0 v1 v2) (by kernel_rfl) hS0 ?_
  refine wpDet_take ?vA0 (Bs.stays w1 _ b e p n c h0 h1 h2 h3 h4 h5 v0 v1 v2) (fun _ h => h.1) (i := 0) rfl (by kernel_rfl) (by kernel_rfl) (by kernel_rfl) (by kernel_rfl) (fun _ _ _ h => h) (Gives.value (by rfl) ?yA0) ?rA0
  case yA0 => (intro w' hSw; obtain ⟨x0, x1⟩ := hSw.1.two; obtain ⟨m0, m1, m2, m3, m4, m5⟩ := hSw.2.1.six; obtain ⟨n0, n1, n2⟩ := hSw.2.2.three; clear hSw; (try dsimp only at hSw); go_simp; try with_reducible rfl)
  (try simp only [Act.put, List.getElem_toArray, List.getElem_cons_zero, List.getElem_cons_succ, List.setIfInBounds_toArray, List.set_cons_zero, List.set_cons_succ])
  refine wpDet_take ?vA1 (Bs.stays w1 _ b e p n c h0 h1 h2 h3 h4 h5 v0 v1 v2) (fun _ h => h.1) (i := 1) rfl (by kernel_rfl) (by kernel_rfl) (by kernel_rfl) (by kernel_rfl) (fun _ _ _ h => h) (Gives.value (by rfl) ?yA1) ?rA1
  case yA1 => (intro w' hSw; (try dsimp only at hSw); go_simp; try with_reducible rfl)
  (try simp only [Act.put, List.getElem_toArray, List.getElem_cons_zero, List.getElem_cons_succ, List.setIfInBounds_toArray, List.set_cons_zero, List.set_cons_succ])
  refine wpDet_take ?vA2 (Bs.stays w1 _ b e p n c h0 h1 h2 h3 h4 h5 v0 v1 v2) (fun _ h => h.1) (i := 2) rfl (by kernel_rfl) (by kernel_rfl) (by kernel_rfl) (by kernel_rfl) (fun _ _ _ h => h) (Gives.value (by rfl) ?yA2) ?rA2
  case yA2 => (intro w' hSw; obtain ⟨x0, x1⟩ := hSw.1.two; obtain ⟨m0, m1, m2, m3, m4, m5⟩ := hSw.2.1.six; obtain ⟨n0, n1, n2⟩ := hSw.2.2.three; clear hSw; (try dsimp only at hSw); go_simp; try with_reducible rfl)
  (try simp only [Act.put, List.getElem_toArray, List.getElem_cons_zero, List.getElem_cons_succ, List.setIfInBounds_toArray, List.set_cons_zero, List.set_cons_succ])
  refine wpDet_take ?vA3 (Bs.stays w1 _ b e p n c h0 h1 h2 h3 h4 h5 v0 v1 v2) (fun _ h => h.1) (i := 3) rfl (by kernel_rfl) (by kernel_rfl) (by kernel_rfl) (by kernel_rfl) (fun _ _ _ h => h) (Gives.value (by rfl) ?yA3) ?rA3
  case yA3 => (intro w' hSw; obtain ⟨x0, x1⟩ := hSw.1.two; obtain ⟨m0, m1, m2, m3, m4, m5⟩ := hSw.2.1.six; obtain ⟨n0, n1, n2⟩ := hSw.2.2.three; clear hSw; (try dsimp only at hSw); go_simp; try with_reducible rfl)
  (try simp only [Act.put, List.getElem_toArray, List.getElem_cons_zero, List.getElem_cons_succ, List.setIfInBounds_toArray, List.set_cons_zero, List.set_cons_succ])
  refine wpDet_take ?vA4 (Bs.stays w1 _ b e p n c h0 h1 h2 h3 h4 h5 v0 v1 v2) (fun _ h => h.1) (i := 4) rfl (by kernel_rfl) (by kernel_rfl) (by kernel_rfl) (by kernel_rfl) (fun _ _ _ h => h) (Gives.value (by rfl) ?yA4) ?rA4
  case yA4 => (intro w' hSw; (try dsimp only at hSw); go_simp; try with_reducible rfl)
  (try simp only [Act.put, List.getElem_toArray, List.getElem_cons_zero, List.getElem_cons_succ, List.setIfInBounds_toArray, List.set_cons_zero, List.set_cons_succ])
  refine wpDet_take ?vA5 (Bs.stays w1 _ b e p n c h0 h1 h2 h3 h4 h5 v0 v1 v2) (fun _ h => h.1) (i := 5) rfl (by kernel_rfl) (by kernel_rfl) (by kernel_rfl) (by kernel_rfl) (fun _ _ _ h => h) (Gives.value (by rfl) ?yA5) ?rA5
  case yA5 => (intro w' hSw; obtain ⟨x0, x1⟩ := hSw.1.two; obtain ⟨m0, m1, m2, m3, m4, m5⟩ := hSw.2.1.six; obtain ⟨n0, n1, n2⟩ := hSw.2.2.three; clear hSw; (try dsimp only at hSw); go_simp; try with_reducible rfl)
  (try simp only [Act.put, List.getElem_toArray, List.getElem_cons_zero, List.getElem_cons_succ, List.setIfInBounds_toArray, List.set_cons_zero, List.set_cons_succ])
  refine wpDet_take ?vA6 (Bs.stays w1 _ b e p n c h0 h1 h2 h3 h4 h5 v0 v1 v2) (fun _ h => h.1) (i := 6) rfl (by kernel_rfl) (by kernel_rfl) (by kernel_rfl) (by kernel_rfl) (fun _ _ _ h => h) (Gives.value (by rfl) ?yA6) ?rA6
  case yA6 => (intro w' hSw; obtain ⟨x0, x1⟩ := hSw.1.two; obtain ⟨m0, m1, m2, m3, m4, m5⟩ := hSw.2.1.six; obtain ⟨n0, n1, n2⟩ := hSw.2.2.three; clear hSw; (try dsimp only at hSw); go_simp; try with_reducible rfl)
  (try simp only [Act.put, List.getElem_toArray, List.getElem_cons_zero, List.getElem_cons_succ, List.setIfInBounds_toArray, List.set_cons_zero, List.set_cons_succ])
  refine wpDet_take (.int .i64 pe) (Bs.stays w1 _ b e p n c h0 h1 h2 h3 h4 h5 v0 v1 v2) (fun _ h => h.1) (i := 7) rfl (by kernel_rfl) (by kernel_rfl) (by kernel_rfl) (by kernel_rfl) (fun _ _ _ h => h) (Gives.call 12 #[.agg #[.int .i64 h0, .int .i64 h1, .int .i64 h2, .int .i64 h3, .int .i64 h4, .int .i64 h5], .agg #[.int .i64 v0, .int .i64 v1, .int .i64 v2]] (by rfl) (fun _ => by first | (go_simp; done) | (go_simp; rfl)) (fun W hW => hPc W)) ?_
  (try simp only [Act.put, List.getElem_toArray, List.getElem_cons_zero, List.getElem_cons_succ, List.setIfInBounds_toArray, List.set_cons_zero, List.set_cons_succ])
  refine wpDet_ready (rs := [8]) (by kernel_rfl) (by simp) (AllDet.cons rfl (fun V hV K hK => ?_) AllDet.nil)
  rw [if_pos (by rfl)]
  have hS2 := hV.2.1
  obtain ⟨a0, a1, a2, ⟨a3, a4, a5, a6, a7, a8⟩, a9, a10, a11⟩ := hS2.state
  obtain ⟨⟨f0, f1, f2, f3, f4, f5⟩, f6, f7, f8, f9, f10, f11⟩ := hS2.free12
  have hth : V.there (b + 3) 0 12 := there12 hS2 rfl
  refine wp_store_mid 72 _ _ rfl (b + 3) 0 #[.int .i64 e, .slice p n c, .int .u64 (al : Int), .int .i64 h0, .int .i64 h1, .int .i64 h2, .int .i64 h3, .int .i64 h4, .int .i64 h5, .int .i64 v0, .int .i64 v1, .int .i64 v2] rfl rfl hth sizeSt one12 ?_
  refine hK.out (Bs w1 #[.int .i64 e, .slice p n c, .int .u64 (al : Int), .int .i64 h0, .int .i64 h1, .int .i64 h2, .int .i64 h3, .int .i64 h4, .int .i64 h5, .int .i64 v0, .int .i64 v1, .int .i64 v2] b e p n c h0 h1 h2 h3 h4 h5 v0 v1 v2) _ _ (Bs.stays w1 _ b e p n c h0 h1 h2 h3 h4 h5 v0 v1 v2) (fun _ _ h => h.1) ⟨⟨hV.1.1.other12 (b + 3) (by omega) _ _ _ _ _ _ _ _ _ _ _ _, hV.1.2.1.other12 (b + 3) (by omega) _ _ _ _ _ _ _ _ _ _ _ _, hV.1.2.2.other12 (b + 3) (by omega) _ _ _ _ _ _ _ _ _ _ _ _⟩, hS2.put12 _ _ _ _ _ _ _ _ _ _ _ _, Below.put12 hV.2.2 (Nat.le_refl _) _ _ _ _ _ _ _ _ _ _ _ _⟩ ?_
  clear hK K hV hth a0 a1 a2 a3 a4 a5 a6 a7 a8 a9 a10 a11 f0 f1 f2 f3 f4 f5 f6 f7 f8 f9 f10 f11 hS2
  (try simp only [Act.put, List.getElem_toArray, List.getElem_cons_zero, List.getElem_cons_succ, List.setIfInBounds_toArray, List.set_cons_zero, List.set_cons_succ])
  refine wpDet_take ?vA9 (Bs.stays w1 _ b e p n c h0 h1 h2 h3 h4 h5 v0 v1 v2) (fun _ h => h.1) (i := 9) rfl (by kernel_rfl) (by kernel_rfl) (by kernel_rfl) (by kernel_rfl) (fun _ _ _ h => h) (Gives.value (by rfl) ?yA9) ?rA9
  case yA9 => (intro w' hSw; (try dsimp only at hSw); go_simp; try with_reducible rfl)
  (try simp only [Act.put, List.getElem_toArray, List.getElem_cons_zero, List.getElem_cons_succ, List.setIfInBounds_toArray, List.set_cons_zero, List.set_cons_succ])
  refine wpDet_done (by kernel_rfl) (fun W3 hV => ?_) _
  obtain ⟨_, hA3, hb3⟩ := hV
  go_wp2_with fail
  exact bodyPost_ret (results_st (p := 8) (u := 9) rfl _ _ (b + 3) _ rfl rfl hA3) rfl ⟨rfl, hB1.trans (hb3.mono (by omega))⟩

end Go.Proofs.YtigojnpjpagfjaaDoor.M
