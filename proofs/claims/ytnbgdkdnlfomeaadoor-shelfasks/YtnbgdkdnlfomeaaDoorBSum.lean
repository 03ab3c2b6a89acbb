/-
  Own text: what records make, in plain words and in memory; the contract of 'with'.
-/
import Derived.Test.YtnbgdkdnlfomeaaDoorBMap
import Derived.Test.YtnbgdkdnlfomeaaDoorDet2
namespace Go.Proofs.YtnbgdkdnlfomeaaDoor.M
open Go.ChangeShapes Go.WideShapes Go.ChangeAt Go.RowKit Go.ChangeMaps Go.MapKept Go.Maps
set_option linter.unusedSimpArgs false

theorem At.setC {t : TypeId} {w : World} {g : Nat} {cs : Array Value} (h : At t w g cs) (i : Nat) (v : Value) : At t (w.setCell ⟨g, i, none⟩ v) g (cs.setIfInBounds i v) := heap_setCell_same w g i _ _ v h

theorem heap_setC (w : World) (g i j : Nat) (v : Value) (h : j ≠ g) : (w.setCell ⟨g, i, none⟩ v).heap[j]? = w.heap[j]? := Below.heap_setCell _ _ _ _ h

/-- What the records up to an index make. -/
structure Sm where
  ix : Int
  ep : Int
  cs : List Ce
  d : Nat → Dn

def Sm.z0 : Sm := ⟨0, 0, [], fun _ => .z0⟩

/-- A record more. -/
def Sm.add (m : Sm) (x : Rc) : Sm := ⟨x.ix, x.ep, putC m.cs ⟨x.k, x.v, x.s⟩, fun i => if (i : Int) = x.c then ⟨x.c, x.q, x.v⟩ else m.d i⟩

def Sm.adds (m : Sm) (l : List Rc) : Sm := l.foldl Sm.add m

/-- A record whose key is one of eight bytes, and whose client there is. -/
def okR (x : Rc) : Prop := x.k < 18446744073709551616 ∧ 0 ≤ x.c ∧ x.c < 4

def SumAt (w : World) (g : Nat) (m : Sm) (b : Nat) : Prop := At 85 w g #[.int .i64 m.ix, .int .i64 m.ep, .map (some b), .int .i64 (m.d 0).c, .int .i64 (m.d 0).q, .int .i64 (m.d 0).v, .int .i64 (m.d 1).c, .int .i64 (m.d 1).q, .int .i64 (m.d 1).v, .int .i64 (m.d 2).c, .int .i64 (m.d 2).q, .int .i64 (m.d 2).v, .int .i64 (m.d 3).c, .int .i64 (m.d 3).q, .int .i64 (m.d 3).v]

theorem SumAt.cells {w : World} {g b : Nat} {m : Sm} (h : SumAt w g m b) : w.cell? ⟨g, 0, none⟩ = some (.int .i64 m.ix) ∧ w.cell? ⟨g, 1, none⟩ = some (.int .i64 m.ep) ∧ w.cell? ⟨g, 2, none⟩ = some (.map (some b)) ∧ w.cell? ⟨g, 3, none⟩ = some (.int .i64 (m.d 0).c) ∧ w.cell? ⟨g, 4, none⟩ = some (.int .i64 (m.d 0).q) ∧ w.cell? ⟨g, 5, none⟩ = some (.int .i64 (m.d 0).v) ∧ w.cell? ⟨g, 6, none⟩ = some (.int .i64 (m.d 1).c) ∧ w.cell? ⟨g, 7, none⟩ = some (.int .i64 (m.d 1).q) ∧ w.cell? ⟨g, 8, none⟩ = some (.int .i64 (m.d 1).v) ∧ w.cell? ⟨g, 9, none⟩ = some (.int .i64 (m.d 2).c) ∧ w.cell? ⟨g, 10, none⟩ = some (.int .i64 (m.d 2).q) ∧ w.cell? ⟨g, 11, none⟩ = some (.int .i64 (m.d 2).v) ∧ w.cell? ⟨g, 12, none⟩ = some (.int .i64 (m.d 3).c) ∧ w.cell? ⟨g, 13, none⟩ = some (.int .i64 (m.d 3).q) ∧ w.cell? ⟨g, 14, none⟩ = some (.int .i64 (m.d 3).v) :=
  ⟨At.cell h 0, At.cell h 1, At.cell h 2, At.cell h 3, At.cell h 4, At.cell h 5, At.cell h 6, At.cell h 7, At.cell h 8, At.cell h 9, At.cell h 10, At.cell h 11, At.cell h 12, At.cell h 13, At.cell h 14⟩

theorem SumAt.setIE {w : World} {g b : Nat} {m : Sm} (h : SumAt w g m b) (i e : Int) : SumAt ((w.setCell ⟨g, 0, none⟩ (.int .i64 i)).setCell ⟨g, 1, none⟩ (.int .i64 e)) g ⟨i, e, m.cs, m.d⟩ b := (At.setC (At.setC h 0 _) 1 _ :)

theorem SumAt.setEI {w : World} {g b : Nat} {m : Sm} (h : SumAt w g m b) (i e : Int) : SumAt ((w.setCell ⟨g, 1, none⟩ (.int .i64 e)).setCell ⟨g, 0, none⟩ (.int .i64 i)) g ⟨i, e, m.cs, m.d⟩ b := (At.setC (At.setC h 1 _) 0 _ :)

theorem SumAt.setM {w : World} {g b : Nat} {m : Sm} (h : SumAt w g m b) (b' : Nat) (cs : List Ce) : SumAt (w.setCell ⟨g, 2, none⟩ (.map (some b'))) g ⟨m.ix, m.ep, cs, m.d⟩ b' := (At.setC h 2 _ :)

theorem SumAt.setD {w : World} {g b : Nat} {m : Sm} (h : SumAt w g m b) (cn : Nat) (hc : cn < 4) (c q v : Int) :
    SumAt (((w.setCell ⟨g, 3 + cn * 3, none⟩ (.int .i64 c)).setCell ⟨g, 3 + cn * 3 + 1, none⟩ (.int .i64 q)).setCell ⟨g, 3 + cn * 3 + 2, none⟩ (.int .i64 v)) g ⟨m.ix, m.ep, m.cs, fun i => if (i : Int) = (cn : Int) then ⟨c, q, v⟩ else m.d i⟩ b := by
  match cn, hc with
  | 0, _ => exact (At.setC (At.setC (At.setC h 3 _) 4 _) 5 _ :)
  | 1, _ => exact (At.setC (At.setC (At.setC h 6 _) 7 _) 8 _ :)
  | 2, _ => exact (At.setC (At.setC (At.setC h 9 _) 10 _) 11 _ :)
  | 3, _ => exact (At.setC (At.setC (At.setC h 12 _) 13 _) 14 _ :)

theorem SumAt.dcell {w : World} {g b : Nat} {m : Sm} (h : SumAt w g m b) (cn : Nat) (hc : cn < 4) : w.cell? ⟨g, 3 + cn * 3, none⟩ = some (.int .i64 (m.d cn).c) ∧ w.cell? ⟨g, 3 + cn * 3 + 1, none⟩ = some (.int .i64 (m.d cn).q) ∧ w.cell? ⟨g, 3 + cn * 3 + 2, none⟩ = some (.int .i64 (m.d cn).v) := by
  match cn, hc with
  | 0, _ => exact ⟨At.cell h 3, At.cell h 4, At.cell h 5⟩
  | 1, _ => exact ⟨At.cell h 6, At.cell h 7, At.cell h 8⟩
  | 2, _ => exact ⟨At.cell h 9, At.cell h 10, At.cell h 11⟩
  | 3, _ => exact ⟨At.cell h 12, At.cell h 13, At.cell h 14⟩

/-- A record in a box. -/
theorem rec_box {w : World} {g : Nat} {x : Rc} (h : At 64 w g #[.int .i64 x.ix, .int .i64 x.ep, .int .u8 (bt x.k 0), .int .u8 (bt x.k 1), .int .u8 (bt x.k 2), .int .u8 (bt x.k 3), .int .u8 (bt x.k 4), .int .u8 (bt x.k 5), .int .u8 (bt x.k 6), .int .u8 (bt x.k 7), .int .i64 x.v, .string x.s, .int .i64 x.c, .int .i64 x.q]) : w.cell? ⟨g, 0, none⟩ = some (.int .i64 x.ix) ∧ w.cell? ⟨g, 1, none⟩ = some (.int .i64 x.ep) ∧ w.cell? ⟨g, 2, none⟩ = some (.int .u8 (bt x.k 0)) ∧ w.cell? ⟨g, 3, none⟩ = some (.int .u8 (bt x.k 1)) ∧ w.cell? ⟨g, 4, none⟩ = some (.int .u8 (bt x.k 2)) ∧ w.cell? ⟨g, 5, none⟩ = some (.int .u8 (bt x.k 3)) ∧ w.cell? ⟨g, 6, none⟩ = some (.int .u8 (bt x.k 4)) ∧ w.cell? ⟨g, 7, none⟩ = some (.int .u8 (bt x.k 5)) ∧ w.cell? ⟨g, 8, none⟩ = some (.int .u8 (bt x.k 6)) ∧ w.cell? ⟨g, 9, none⟩ = some (.int .u8 (bt x.k 7)) ∧ w.cell? ⟨g, 10, none⟩ = some (.int .i64 x.v) ∧ w.cell? ⟨g, 11, none⟩ = some (.string x.s) ∧ w.cell? ⟨g, 12, none⟩ = some (.int .i64 x.c) ∧ w.cell? ⟨g, 13, none⟩ = some (.int .i64 x.q) :=
  ⟨At.cell h 0, At.cell h 1, At.cell h 2, At.cell h 3, At.cell h 4, At.cell h 5, At.cell h 6, At.cell h 7, At.cell h 8, At.cell h 9, At.cell h 10, At.cell h 11, At.cell h 12, At.cell h 13⟩

theorem At.same {t : TypeId} {w w' : World} {g : Nat} {cs : Array Value} (h : At t w g cs) (hb : w'.heap[g]? = w.heap[g]?) : At t w' g cs := by
  unfold At at *
  rw [hb]
  exact h

/-- While records are put: the sums in block g, their map in block b, room for the answer behind g. -/
structure WS (w : World) (g b : Nat) (m : Sm) (W : World) : Prop where
  bel : Below w.heap.size w W
  sm : SumAt W g m b
  box : SumAt W (g + 1) .z0 0 ∨ At 85 W (g + 1) #[.int .i64 0, .int .i64 0, .map none, .int .i64 0, .int .i64 0, .int .i64 0, .int .i64 0, .int .i64 0, .int .i64 0, .int .i64 0, .int .i64 0, .int .i64 0, .int .i64 0, .int .i64 0, .int .i64 0]
  mp : MC W b m.cs
  hg : w.heap.size ≤ g
  hb : g + 1 < b

theorem WS.below {w W W' : World} {g b : Nat} {m : Sm} (h : WS w g b m W) (hb : Below W.heap.size W W') : WS w g b m W' :=
  ⟨h.bel.trans (hb.mono h.bel.size), At.below h.sm hb, h.box.imp (fun h => At.below h hb) (fun h => At.below h hb), h.mp.below hb, h.hg, h.hb⟩

theorem WS.other {w W W' : World} {g b : Nat} {m m' : Sm} (h : WS w g b m W) (hbel : Below w.heap.size W W') (hs : SumAt W' g m' b) (hcs : m'.cs = m.cs) (hx : ∀ j, j ≠ g → W'.heap[j]? = W.heap[j]?) : WS w g b m' W' := by
  have h1 := h.hb
  refine ⟨h.bel.trans hbel, hs, ?_, by rw [hcs]; exact h.mp.kept (hx b (by omega)), h.hg, h.hb⟩
  rcases h.box with h2 | h2
  · exact Or.inl (by unfold SumAt At at *; rw [hx (g + 1) (by omega)]; exact h2)
  · exact Or.inr (by unfold At at *; rw [hx (g + 1) (by omega)]; exact h2)

theorem WS.setIE {w W : World} {g b : Nat} {m : Sm} (h : WS w g b m W) (i e : Int) : WS w g b ⟨i, e, m.cs, m.d⟩ ((W.setCell ⟨g, 0, none⟩ (.int .i64 i)).setCell ⟨g, 1, none⟩ (.int .i64 e)) :=
  h.other (((Below.refl _ W).setCell (p := ⟨g, 0, none⟩) h.hg _).setCell (p := ⟨g, 1, none⟩) h.hg _) (h.sm.setIE i e) rfl fun j hj => by rw [heap_setC _ _ _ _ _ hj, heap_setC _ _ _ _ _ hj]

theorem WS.setEI {w W : World} {g b : Nat} {m : Sm} (h : WS w g b m W) (i e : Int) : WS w g b ⟨i, e, m.cs, m.d⟩ ((W.setCell ⟨g, 1, none⟩ (.int .i64 e)).setCell ⟨g, 0, none⟩ (.int .i64 i)) :=
  h.other (((Below.refl _ W).setCell (p := ⟨g, 1, none⟩) h.hg _).setCell (p := ⟨g, 0, none⟩) h.hg _) (h.sm.setEI i e) rfl fun j hj => by rw [heap_setC _ _ _ _ _ hj, heap_setC _ _ _ _ _ hj]

theorem WS.setD {w W : World} {g b : Nat} {m : Sm} (h : WS w g b m W) (cn : Nat) (hc : cn < 4) (c q v : Int) :
    WS w g b ⟨m.ix, m.ep, m.cs, fun i => if (i : Int) = (cn : Int) then ⟨c, q, v⟩ else m.d i⟩ (((W.setCell ⟨g, 3 + cn * 3, none⟩ (.int .i64 c)).setCell ⟨g, 3 + cn * 3 + 1, none⟩ (.int .i64 q)).setCell ⟨g, 3 + cn * 3 + 2, none⟩ (.int .i64 v)) :=
  h.other ((((Below.refl _ W).setCell (p := ⟨g, 3 + cn * 3, none⟩) h.hg _).setCell (p := ⟨g, 3 + cn * 3 + 1, none⟩) h.hg _).setCell (p := ⟨g, 3 + cn * 3 + 2, none⟩) h.hg _) (h.sm.setD cn hc c q v) rfl fun j hj => by rw [heap_setC _ _ _ _ _ hj, heap_setC _ _ _ _ _ hj, heap_setC _ _ _ _ _ hj]

theorem WS.put {w W : World} {g b : Nat} {m : Sm} (h : WS w g b m W) {k : Nat} (hk : k < 18446744073709551616) (v : Int) (s : ByteArray) :
    ∃ o, (Instr.mapUpdate 80 (.map (some b)) (.agg #[.int .u8 (bt (k) 0), .int .u8 (bt (k) 1), .int .u8 (bt (k) 2), .int .u8 (bt (k) 3), .int .u8 (bt (k) 4), .int .u8 (bt (k) 5), .int .u8 (bt (k) 6), .int .u8 (bt (k) 7)]) (.agg #[.int .u8 (bt (Ce.mk k v s).k 0), .int .u8 (bt (Ce.mk k v s).k 1), .int .u8 (bt (Ce.mk k v s).k 2), .int .u8 (bt (Ce.mk k v s).k 3), .int .u8 (bt (Ce.mk k v s).k 4), .int .u8 (bt (Ce.mk k v s).k 5), .int .u8 (bt (Ce.mk k v s).k 6), .int .u8 (bt (Ce.mk k v s).k 7), .int .i64 (Ce.mk k v s).v, .string (Ce.mk k v s).s])).run Tryd.prog W = .ok () (setBlock W b o) ∧ WS w g b ⟨m.ix, m.ep, putC m.cs ⟨k, v, s⟩, m.d⟩ (setBlock W b o) := by
  obtain ⟨o, h1, h2⟩ := h.mp.put (c := ⟨k, v, s⟩) hk
  have hlt := h.mp.lt
  have hx : ∀ j, j ≠ b → (setBlock W b o).heap[j]? = W.heap[j]? := fun j hj => heap_setBlock_ne W b j o hj
  have hb := h.hb
  have hg := h.hg
  refine ⟨o, h1, h.bel.trans ⟨rfl, rfl, rfl, by simp [setBlock], fun j hj => hx j (by omega)⟩, ?_, ?_, h2 _ (heap_setBlock W b o hlt), h.hg, h.hb⟩
  · have := h.sm
    unfold SumAt At at *
    rw [hx g (by omega)]
    exact this
  · rcases h.box with h2 | h2
    · exact Or.inl (by unfold SumAt At at *; rw [hx (g + 1) (by omega)]; exact h2)
    · exact Or.inr (by unfold At at *; rw [hx (g + 1) (by omega)]; exact h2)

theorem infoSm : (Tryd.prog.info? 85).map (·.size) = some 15 := by kernel_rfl

theorem oneSm {m : Sm} {b : Nat} : (#[.int .i64 m.ix, .int .i64 m.ep, .map (some b), .int .i64 (m.d 0).c, .int .i64 (m.d 0).q, .int .i64 (m.d 0).v, .int .i64 (m.d 1).c, .int .i64 (m.d 1).q, .int .i64 (m.d 1).v, .int .i64 (m.d 2).c, .int .i64 (m.d 2).q, .int .i64 (m.d 2).v, .int .i64 (m.d 3).c, .int .i64 (m.d 3).q, .int .i64 (m.d 3).v] : Array Value).all (·.oneCell') = true := by simp [Value.oneCell']

set_option maxRecDepth 20000 in
set_option maxHeartbeats 4000000 in
theorem with_any (m : Sm) (b : Nat) (p : Option Addr) (n c : Nat) (l : List Rc) (w : World) (hM : MC w b m.cs) (hr : RdG recS w p n c l) (hok : ∀ x ∈ l, okR x) (hn : n ≤ 1099511627776) :
    Calls Tryd.prog 55 #[.agg #[.int .i64 m.ix, .int .i64 m.ep, .map (some b), .int .i64 (m.d 0).c, .int .i64 (m.d 0).q, .int .i64 (m.d 0).v, .int .i64 (m.d 1).c, .int .i64 (m.d 1).q, .int .i64 (m.d 1).v, .int .i64 (m.d 2).c, .int .i64 (m.d 2).q, .int .i64 (m.d 2).v, .int .i64 (m.d 3).c, .int .i64 (m.d 3).q, .int .i64 (m.d 3).v], .slice p n c] w fun e w' => ∃ b', e = .returned (.agg #[.int .i64 (m.adds l).ix, .int .i64 (m.adds l).ep, .map (some b'), .int .i64 ((m.adds l).d 0).c, .int .i64 ((m.adds l).d 0).q, .int .i64 ((m.adds l).d 0).v, .int .i64 ((m.adds l).d 1).c, .int .i64 ((m.adds l).d 1).q, .int .i64 ((m.adds l).d 1).v, .int .i64 ((m.adds l).d 2).c, .int .i64 ((m.adds l).d 2).q, .int .i64 ((m.adds l).d 2).v, .int .i64 ((m.adds l).d 3).c, .int .i64 ((m.adds l).d 3).q, .int .i64 ((m.adds l).d 3).v]) ∧ MC w' b' (m.adds l).cs ∧ w.heap.size ≤ b' ∧ Below w.heap.size w w' := by
  have hb0 := below_alloc' w (.cells #[.int .i64 m.ix, .int .i64 m.ep, .map (some b), .int .i64 (m.d 0).c, .int .i64 (m.d 0).q, .int .i64 (m.d 0).v, .int .i64 (m.d 1).c, .int .i64 (m.d 1).q, .int .i64 (m.d 1).v, .int .i64 (m.d 2).c, .int .i64 (m.d 2).q, .int .i64 (m.d 2).v, .int .i64 (m.d 3).c, .int .i64 (m.d 3).q, .int .i64 (m.d 3).v] 85)
  have hb1 := hb0.trans ((below_alloc' (w.alloc (.cells #[.int .i64 m.ix, .int .i64 m.ep, .map (some b), .int .i64 (m.d 0).c, .int .i64 (m.d 0).q, .int .i64 (m.d 0).v, .int .i64 (m.d 1).c, .int .i64 (m.d 1).q, .int .i64 (m.d 1).v, .int .i64 (m.d 2).c, .int .i64 (m.d 2).q, .int .i64 (m.d 2).v, .int .i64 (m.d 3).c, .int .i64 (m.d 3).q, .int .i64 (m.d 3).v] 85)) (.cells #[.int .i64 0, .int .i64 0, .map none, .int .i64 0, .int .i64 0, .int .i64 0, .int .i64 0, .int .i64 0, .int .i64 0, .int .i64 0, .int .i64 0, .int .i64 0, .int .i64 0, .int .i64 0, .int .i64 0] 85)).mono hb0.size)
  have hs0 : (w.alloc (.cells #[.int .i64 m.ix, .int .i64 m.ep, .map (some b), .int .i64 (m.d 0).c, .int .i64 (m.d 0).q, .int .i64 (m.d 0).v, .int .i64 (m.d 1).c, .int .i64 (m.d 1).q, .int .i64 (m.d 1).v, .int .i64 (m.d 2).c, .int .i64 (m.d 2).q, .int .i64 (m.d 2).v, .int .i64 (m.d 3).c, .int .i64 (m.d 3).q, .int .i64 (m.d 3).v] 85)).heap.size = w.heap.size + 1 := by simp
  have hA0 : SumAt ((w.alloc (.cells #[.int .i64 m.ix, .int .i64 m.ep, .map (some b), .int .i64 (m.d 0).c, .int .i64 (m.d 0).q, .int .i64 (m.d 0).v, .int .i64 (m.d 1).c, .int .i64 (m.d 1).q, .int .i64 (m.d 1).v, .int .i64 (m.d 2).c, .int .i64 (m.d 2).q, .int .i64 (m.d 2).v, .int .i64 (m.d 3).c, .int .i64 (m.d 3).q, .int .i64 (m.d 3).v] 85)).alloc (.cells #[.int .i64 0, .int .i64 0, .map none, .int .i64 0, .int .i64 0, .int .i64 0, .int .i64 0, .int .i64 0, .int .i64 0, .int .i64 0, .int .i64 0, .int .i64 0, .int .i64 0, .int .i64 0, .int .i64 0] 85)) w.heap.size m b := (At.new _ w _).alloc _
  have hA1 : At 85 ((w.alloc (.cells #[.int .i64 m.ix, .int .i64 m.ep, .map (some b), .int .i64 (m.d 0).c, .int .i64 (m.d 0).q, .int .i64 (m.d 0).v, .int .i64 (m.d 1).c, .int .i64 (m.d 1).q, .int .i64 (m.d 1).v, .int .i64 (m.d 2).c, .int .i64 (m.d 2).q, .int .i64 (m.d 2).v, .int .i64 (m.d 3).c, .int .i64 (m.d 3).q, .int .i64 (m.d 3).v] 85)).alloc (.cells #[.int .i64 0, .int .i64 0, .map none, .int .i64 0, .int .i64 0, .int .i64 0, .int .i64 0, .int .i64 0, .int .i64 0, .int .i64 0, .int .i64 0, .int .i64 0, .int .i64 0, .int .i64 0, .int .i64 0] 85)) (w.heap.size + 1) #[.int .i64 0, .int .i64 0, .map none, .int .i64 0, .int .i64 0, .int .i64 0, .int .i64 0, .int .i64 0, .int .i64 0, .int .i64 0, .int .i64 0, .int .i64 0, .int .i64 0, .int .i64 0, .int .i64 0] := by rw [← hs0]; exact At.new _ _ _
  have hs1 : ((w.alloc (.cells #[.int .i64 m.ix, .int .i64 m.ep, .map (some b), .int .i64 (m.d 0).c, .int .i64 (m.d 0).q, .int .i64 (m.d 0).v, .int .i64 (m.d 1).c, .int .i64 (m.d 1).q, .int .i64 (m.d 1).v, .int .i64 (m.d 2).c, .int .i64 (m.d 2).q, .int .i64 (m.d 2).v, .int .i64 (m.d 3).c, .int .i64 (m.d 3).q, .int .i64 (m.d 3).v] 85)).alloc (.cells #[.int .i64 0, .int .i64 0, .map none, .int .i64 0, .int .i64 0, .int .i64 0, .int .i64 0, .int .i64 0, .int .i64 0, .int .i64 0, .int .i64 0, .int .i64 0, .int .i64 0, .int .i64 0, .int .i64 0] 85)).heap.size = w.heap.size + 2 := by simp
  obtain ⟨es, clock, hb, hcp⟩ := (hM.below hb1).copy
  have hC := clone_map b es clock _ hb
  rw [hs1] at hC
  go_enter Tryd.func55, Tryd.ntmps55
  go_wp2_with fail
  generalize ((w.alloc (.cells #[.int .i64 m.ix, .int .i64 m.ep, .map (some b), .int .i64 (m.d 0).c, .int .i64 (m.d 0).q, .int .i64 (m.d 0).v, .int .i64 (m.d 1).c, .int .i64 (m.d 1).q, .int .i64 (m.d 1).v, .int .i64 (m.d 2).c, .int .i64 (m.d 2).q, .int .i64 (m.d 2).v, .int .i64 (m.d 3).c, .int .i64 (m.d 3).q, .int .i64 (m.d 3).v] 85)).alloc (.cells #[.int .i64 0, .int .i64 0, .map none, .int .i64 0, .int .i64 0, .int .i64 0, .int .i64 0, .int .i64 0, .int .i64 0, .int .i64 0, .int .i64 0, .int .i64 0, .int .i64 0, .int .i64 0, .int .i64 0] 85)) = V0 at *
  refine hC.mono ?_
  rintro e V1 ⟨rfl, rfl⟩
  have hcp2 := hcp V0
  rw [hs1] at hcp2
  have hbv := below_alloc' V0 (.map es clock)
  have hA2 : SumAt (V0.alloc (.map es clock)) w.heap.size m b := At.below hA0 hbv
  have hA3 := At.below hA1 hbv
  have hB2 := hb1.trans (hbv.mono hb1.size)
  have hWS : WS w w.heap.size (w.heap.size + 2) m ((V0.alloc (.map es clock)).setCell ⟨w.heap.size, 2, none⟩ (.map (some (w.heap.size + 2)))) := by
    have hx : ∀ j, j ≠ w.heap.size → ((V0.alloc (.map es clock)).setCell ⟨w.heap.size, 2, none⟩ (.map (some (w.heap.size + 2)))).heap[j]? = (V0.alloc (.map es clock)).heap[j]? := fun j hj => heap_setC _ _ _ _ _ hj
    refine ⟨hB2.setCell (p := ⟨w.heap.size, 2, none⟩) (Nat.le_refl _) _, hA2.setM _ m.cs, Or.inr ?_, hcp2.kept (hx _ (by omega)), Nat.le_refl _, by omega⟩
    unfold At at *
    rw [hx _ (by omega)]
    exact hA3
  have hsw : ((V0.alloc (.map es clock)).setCell ⟨w.heap.size, 2, none⟩ (.map (some (w.heap.size + 2)))) = ((V0.setCell ⟨w.heap.size, 2, none⟩ (.map (some (w.heap.size + 2)))).alloc (.map es clock)) := by
    have : w.heap.size < V0.heap.size := by omega
    simp [go_sem, this]
  rw [hsw] at hWS
  clear hsw
  have f2 : (V0.alloc (.map es clock)).frozen? ⟨w.heap.size, 2, none⟩ = false := At.free hA2 2
  have f3 := (hA2.cells).2.2.1
  go_wp2_with fail
  clear hb0 hb1 hs0 hA0 hA1 hs1 hb hcp hC hcp2 hbv hA2 hA3 hB2 f2 f3 hM
  generalize ((V0.setCell ⟨w.heap.size, 2, none⟩ (.map (some (w.heap.size + 2)))).alloc (.map es clock)) = W0 at *
  have HG : Hid (w.heap.size ≤ w.heap.size + 2) := by unfold Hid; omega
  clear HG
  have HG : Hid (w.heap.size ≤ w.heap.size + 2) := by unfold Hid; omega
  generalize w.heap.size + 2 = B at *
  generalize w.heap.size = g at *
  have hl := hr.len
  go_loopw [13] (fun vi wr => ∃ (k : Nat) (m' : Sm), k ≤ n ∧ vi = .int .i64 k ∧ WS w g B m' wr ∧ Hid (m.adds l = m'.adds (l.drop k))) (fun vi _ => n - (intOf vi).toNat)
  case atStart => exact ⟨0, m, Nat.zero_le _, rfl, hWS, rfl⟩
  case round =>
    clear hWS
    obtain ⟨k, m', hk, rfl, hS, HM⟩ := hrel
    by_cases hkn : k < n
    · have hki : (k : Int) < (n : Int) := by omega
      obtain ⟨bb, o, rfl, hc⟩ := (hr.below hS.bel).rcs (by omega)
      obtain ⟨x0, x1, x2, x3, x4, x5, x6, x7, x8, x9, x10, x11, x12, x13⟩ := hc k hkn
      clear hc
      have hkl : k < l.length := by omega
      have hokx : okR (l.getD k .z0) := hok _ (by rw [List.getD_eq_getElem?_getD, List.getElem?_eq_getElem hkl]; exact List.getElem_mem hkl)
      have HM2 : Hid (m.adds l = (m'.add (l.getD k .z0)).adds (l.drop (k + 1))) := by
        unfold Hid
        rw [HM.out, List.drop_eq_getElem_cons hkl, List.getD_eq_getElem?_getD, List.getElem?_eq_getElem hkl]
        rfl
      clear HM hkl
      generalize l.getD k .z0 = x at *
      obtain ⟨xi, xe, xk, xv, xs, xc, xq⟩ := x
      obtain ⟨hk1, hk2, hk3⟩ := hokx
      dsimp only at *
      obtain ⟨cn, rfl⟩ : ∃ cn : Nat, xc = (cn : Int) := ⟨xc.toNat, by omega⟩
      have hcn : cn < 4 := by omega
      have hba := below_alloc' wr (.cells #[.int .i64 (Rc.mk xi xe xk xv xs (cn : Int) xq).ix, .int .i64 (Rc.mk xi xe xk xv xs (cn : Int) xq).ep, .int .u8 (bt (Rc.mk xi xe xk xv xs (cn : Int) xq).k 0), .int .u8 (bt (Rc.mk xi xe xk xv xs (cn : Int) xq).k 1), .int .u8 (bt (Rc.mk xi xe xk xv xs (cn : Int) xq).k 2), .int .u8 (bt (Rc.mk xi xe xk xv xs (cn : Int) xq).k 3), .int .u8 (bt (Rc.mk xi xe xk xv xs (cn : Int) xq).k 4), .int .u8 (bt (Rc.mk xi xe xk xv xs (cn : Int) xq).k 5), .int .u8 (bt (Rc.mk xi xe xk xv xs (cn : Int) xq).k 6), .int .u8 (bt (Rc.mk xi xe xk xv xs (cn : Int) xq).k 7), .int .i64 (Rc.mk xi xe xk xv xs (cn : Int) xq).v, .string (Rc.mk xi xe xk xv xs (cn : Int) xq).s, .int .i64 (Rc.mk xi xe xk xv xs (cn : Int) xq).c, .int .i64 (Rc.mk xi xe xk xv xs (cn : Int) xq).q] 64)
      have hS1 := hS.below hba
      have hX : At 64 (wr.alloc (.cells #[.int .i64 (Rc.mk xi xe xk xv xs (cn : Int) xq).ix, .int .i64 (Rc.mk xi xe xk xv xs (cn : Int) xq).ep, .int .u8 (bt (Rc.mk xi xe xk xv xs (cn : Int) xq).k 0), .int .u8 (bt (Rc.mk xi xe xk xv xs (cn : Int) xq).k 1), .int .u8 (bt (Rc.mk xi xe xk xv xs (cn : Int) xq).k 2), .int .u8 (bt (Rc.mk xi xe xk xv xs (cn : Int) xq).k 3), .int .u8 (bt (Rc.mk xi xe xk xv xs (cn : Int) xq).k 4), .int .u8 (bt (Rc.mk xi xe xk xv xs (cn : Int) xq).k 5), .int .u8 (bt (Rc.mk xi xe xk xv xs (cn : Int) xq).k 6), .int .u8 (bt (Rc.mk xi xe xk xv xs (cn : Int) xq).k 7), .int .i64 (Rc.mk xi xe xk xv xs (cn : Int) xq).v, .string (Rc.mk xi xe xk xv xs (cn : Int) xq).s, .int .i64 (Rc.mk xi xe xk xv xs (cn : Int) xq).c, .int .i64 (Rc.mk xi xe xk xv xs (cn : Int) xq).q] 64)) wr.heap.size #[.int .i64 (Rc.mk xi xe xk xv xs (cn : Int) xq).ix, .int .i64 (Rc.mk xi xe xk xv xs (cn : Int) xq).ep, .int .u8 (bt (Rc.mk xi xe xk xv xs (cn : Int) xq).k 0), .int .u8 (bt (Rc.mk xi xe xk xv xs (cn : Int) xq).k 1), .int .u8 (bt (Rc.mk xi xe xk xv xs (cn : Int) xq).k 2), .int .u8 (bt (Rc.mk xi xe xk xv xs (cn : Int) xq).k 3), .int .u8 (bt (Rc.mk xi xe xk xv xs (cn : Int) xq).k 4), .int .u8 (bt (Rc.mk xi xe xk xv xs (cn : Int) xq).k 5), .int .u8 (bt (Rc.mk xi xe xk xv xs (cn : Int) xq).k 6), .int .u8 (bt (Rc.mk xi xe xk xv xs (cn : Int) xq).k 7), .int .i64 (Rc.mk xi xe xk xv xs (cn : Int) xq).v, .string (Rc.mk xi xe xk xv xs (cn : Int) xq).s, .int .i64 (Rc.mk xi xe xk xv xs (cn : Int) xq).c, .int .i64 (Rc.mk xi xe xk xv xs (cn : Int) xq).q] := At.new _ _ _
      dsimp only at hba hS1 hX
      have hbr := hS1.bel
      clear hS hba
      go_wp2_with fail
      clear x0 x1 x2 x3 x4 x5 x6 x7 x8 x9 x10 x11 x12 x13
      have hne : g ≠ wr.heap.size := by
        have h1 := At.lt hS1.sm
        have h2 := hS1.hb
        have h3 := hS1.mp.lt
        have h4 := At.lt hX
        simp at h3
        omega
      generalize (wr.alloc (.cells #[.int .i64 (Rc.mk xi xe xk xv xs (cn : Int) xq).ix, .int .i64 (Rc.mk xi xe xk xv xs (cn : Int) xq).ep, .int .u8 (bt (Rc.mk xi xe xk xv xs (cn : Int) xq).k 0), .int .u8 (bt (Rc.mk xi xe xk xv xs (cn : Int) xq).k 1), .int .u8 (bt (Rc.mk xi xe xk xv xs (cn : Int) xq).k 2), .int .u8 (bt (Rc.mk xi xe xk xv xs (cn : Int) xq).k 3), .int .u8 (bt (Rc.mk xi xe xk xv xs (cn : Int) xq).k 4), .int .u8 (bt (Rc.mk xi xe xk xv xs (cn : Int) xq).k 5), .int .u8 (bt (Rc.mk xi xe xk xv xs (cn : Int) xq).k 6), .int .u8 (bt (Rc.mk xi xe xk xv xs (cn : Int) xq).k 7), .int .i64 (Rc.mk xi xe xk xv xs (cn : Int) xq).v, .string (Rc.mk xi xe xk xv xs (cn : Int) xq).s, .int .i64 (Rc.mk xi xe xk xv xs (cn : Int) xq).c, .int .i64 (Rc.mk xi xe xk xv xs (cn : Int) xq).q] 64)) = V1 at *
      generalize wr.heap.size = bx at *
      have y0 := At.cell hX 0
      have y1 := At.cell hX 1
      have z0 := (hS1.sm.cells).1
      have z1 := (hS1.sm.cells).2.1
      have f0 := At.free hS1.sm 0
      have f1 := At.free hS1.sm 1
      simp only [List.getElem?_toArray, List.getElem?_cons_zero, List.getElem?_cons_succ] at y0 y1
      go_region
      have hS2 := (hS1.setIE xi xe).below ((Below.refl _ _).drew)
      have hX2 : At 64 ((V1.setCell ⟨g, 0, none⟩ (.int .i64 xi)).setCell ⟨g, 1, none⟩ (.int .i64 xe)).drew bx #[.int .i64 (Rc.mk xi xe xk xv xs (cn : Int) xq).ix, .int .i64 (Rc.mk xi xe xk xv xs (cn : Int) xq).ep, .int .u8 (bt (Rc.mk xi xe xk xv xs (cn : Int) xq).k 0), .int .u8 (bt (Rc.mk xi xe xk xv xs (cn : Int) xq).k 1), .int .u8 (bt (Rc.mk xi xe xk xv xs (cn : Int) xq).k 2), .int .u8 (bt (Rc.mk xi xe xk xv xs (cn : Int) xq).k 3), .int .u8 (bt (Rc.mk xi xe xk xv xs (cn : Int) xq).k 4), .int .u8 (bt (Rc.mk xi xe xk xv xs (cn : Int) xq).k 5), .int .u8 (bt (Rc.mk xi xe xk xv xs (cn : Int) xq).k 6), .int .u8 (bt (Rc.mk xi xe xk xv xs (cn : Int) xq).k 7), .int .i64 (Rc.mk xi xe xk xv xs (cn : Int) xq).v, .string (Rc.mk xi xe xk xv xs (cn : Int) xq).s, .int .i64 (Rc.mk xi xe xk xv xs (cn : Int) xq).c, .int .i64 (Rc.mk xi xe xk xv xs (cn : Int) xq).q] := At.same hX (by
        show ((V1.setCell ⟨g, 0, none⟩ (.int .i64 xi)).setCell ⟨g, 1, none⟩ (.int .i64 xe)).heap[bx]? = _
        rw [heap_setC _ _ _ _ _ (Ne.symm hne), heap_setC _ _ _ _ _ (Ne.symm hne)])
      clear hS1 hX y0 y1 z0 z1 f0 f1
      generalize ((V1.setCell ⟨g, 0, none⟩ (.int .i64 xi)).setCell ⟨g, 1, none⟩ (.int .i64 xe)).drew = V2 at *
      obtain ⟨o, hput, hS3⟩ := hS2.put hk1 xv xs
      have hX3 : At 64 (setBlock V2 B o) bx #[.int .i64 (Rc.mk xi xe xk xv xs (cn : Int) xq).ix, .int .i64 (Rc.mk xi xe xk xv xs (cn : Int) xq).ep, .int .u8 (bt (Rc.mk xi xe xk xv xs (cn : Int) xq).k 0), .int .u8 (bt (Rc.mk xi xe xk xv xs (cn : Int) xq).k 1), .int .u8 (bt (Rc.mk xi xe xk xv xs (cn : Int) xq).k 2), .int .u8 (bt (Rc.mk xi xe xk xv xs (cn : Int) xq).k 3), .int .u8 (bt (Rc.mk xi xe xk xv xs (cn : Int) xq).k 4), .int .u8 (bt (Rc.mk xi xe xk xv xs (cn : Int) xq).k 5), .int .u8 (bt (Rc.mk xi xe xk xv xs (cn : Int) xq).k 6), .int .u8 (bt (Rc.mk xi xe xk xv xs (cn : Int) xq).k 7), .int .i64 (Rc.mk xi xe xk xv xs (cn : Int) xq).v, .string (Rc.mk xi xe xk xv xs (cn : Int) xq).s, .int .i64 (Rc.mk xi xe xk xv xs (cn : Int) xq).c, .int .i64 (Rc.mk xi xe xk xv xs (cn : Int) xq).q] := At.same hX2 (heap_setBlock_ne V2 B bx o (fun e => by
        have h1 := hX2
        obtain ⟨es, ck, h2, _⟩ := hS2.mp.ex
        unfold At at h1
        rw [e, h2] at h1
        cases h1))
      obtain ⟨y0, y1, y2, y3, y4, y5, y6, y7, y8, y9, y10, y11, y12, y13⟩ := rec_box hX2
      obtain ⟨z0, z1, z2, z3, z4, z5, z6, z7, z8, z9, z10, z11, z12, z13⟩ := rec_box hX3
      have g2 := (hS2.sm.cells).2.2.1
      obtain ⟨d0, d1, d2⟩ := hS3.sm.dcell cn hcn
      have e0 := At.free hS3.sm (3 + cn * 3)
      have e1 := At.free hS3.sm (3 + cn * 3 + 1)
      have e2 := At.free hS3.sm (3 + cn * 3 + 2)
      have hS4 := hS3.setD cn hcn (cn : Int) xq xv
      have hc4 : (cn : Int) < 4 := by omega
      dsimp only at *
      clear hS2 hX2 hX3
      generalize hV3 : setBlock V2 B o = V3 at *
      have q1 : (V3.setCell ⟨g, 3 + cn * 3, none⟩ (.int .i64 (cn : Int))).cell? ⟨g, 3 + cn * 3 + 1, none⟩ = some (.int .i64 (m'.d cn).q) := by rw [World.cell?_setCell_other (h := fun e => absurd (congrArg Addr.off e) (by simp))]; exact d1
      have q2 : ((V3.setCell ⟨g, 3 + cn * 3, none⟩ (.int .i64 (cn : Int))).setCell ⟨g, 3 + cn * 3 + 1, none⟩ (.int .i64 xq)).cell? ⟨g, 3 + cn * 3 + 2, none⟩ = some (.int .i64 (m'.d cn).v) := by rw [World.cell?_setCell_other (h := fun e => absurd (congrArg Addr.off e) (by simp)), World.cell?_setCell_other (h := fun e => absurd (congrArg Addr.off e) (by simp))]; exact d2
      go_wp2_with fail
      exact ⟨⟨k + 1, _, by omega, by go_num, hS4, HM2⟩, by simp [intOf]; omega⟩
    · have HE : Hid (m.adds l = m') := by
        unfold Hid
        rw [HM.out, List.drop_of_length_le (by omega)]
        rfl
      have hki : ¬ (k : Int) < (n : Int) := by omega
      obtain ⟨cs0, hbox, hbs⟩ : ∃ cs0 : Array Value, At 85 wr (g + 1) cs0 ∧ cs0.size = 15 := by
        rcases hS.box with h | h
        · exact ⟨_, h, rfl⟩
        · exact ⟨_, h, rfl⟩
      have hsm := hS.sm
      have hmp := hS.mp
      have hbel := hS.bel
      have hgB := hS.hb
      have hgw := hS.hg
      clear hr HM hS
      go_wp2_with (first | refine wpList_load_row rfl 85 _ rfl g rfl _ _ _ _ hsm Tryd.underlying85 rfl infoSm ?_ | refine wpList_store_row rfl 85 _ _ rfl (g + 1) #[.int .i64 m'.ix, .int .i64 m'.ep, .map (some B), .int .i64 (m'.d 0).c, .int .i64 (m'.d 0).q, .int .i64 (m'.d 0).v, .int .i64 (m'.d 1).c, .int .i64 (m'.d 1).q, .int .i64 (m'.d 1).v, .int .i64 (m'.d 2).c, .int .i64 (m'.d 2).q, .int .i64 (m'.d 2).v, .int .i64 (m'.d 3).c, .int .i64 (m'.d 3).q, .int .i64 (m'.d 3).v] rfl rfl _ _ hbox infoSm hbs oneSm ?_)
      have hbr : At 85 (wr.setRow (g + 1) #[.int .i64 m'.ix, .int .i64 m'.ep, .map (some B), .int .i64 (m'.d 0).c, .int .i64 (m'.d 0).q, .int .i64 (m'.d 0).v, .int .i64 (m'.d 1).c, .int .i64 (m'.d 1).q, .int .i64 (m'.d 1).v, .int .i64 (m'.d 2).c, .int .i64 (m'.d 2).q, .int .i64 (m'.d 2).v, .int .i64 (m'.d 3).c, .int .i64 (m'.d 3).q, .int .i64 (m'.d 3).v]) (g + 1) #[.int .i64 m'.ix, .int .i64 m'.ep, .map (some B), .int .i64 (m'.d 0).c, .int .i64 (m'.d 0).q, .int .i64 (m'.d 0).v, .int .i64 (m'.d 1).c, .int .i64 (m'.d 1).q, .int .i64 (m'.d 1).v, .int .i64 (m'.d 2).c, .int .i64 (m'.d 2).q, .int .i64 (m'.d 2).v, .int .i64 (m'.d 3).c, .int .i64 (m'.d 3).q, .int .i64 (m'.d 3).v] := by
        unfold At at *
        unfold World.setRow
        rw [Array.getElem?_modify, if_pos rfl, hbox]
        rfl
      have hbl := hbel.trans (below_setRow (B := w.heap.size) wr (g + 1) #[.int .i64 m'.ix, .int .i64 m'.ep, .map (some B), .int .i64 (m'.d 0).c, .int .i64 (m'.d 0).q, .int .i64 (m'.d 0).v, .int .i64 (m'.d 1).c, .int .i64 (m'.d 1).q, .int .i64 (m'.d 1).v, .int .i64 (m'.d 2).c, .int .i64 (m'.d 2).q, .int .i64 (m'.d 2).v, .int .i64 (m'.d 3).c, .int .i64 (m'.d 3).q, .int .i64 (m'.d 3).v] (by omega))
      have hmp2 : MC (wr.setRow (g + 1) #[.int .i64 m'.ix, .int .i64 m'.ep, .map (some B), .int .i64 (m'.d 0).c, .int .i64 (m'.d 0).q, .int .i64 (m'.d 0).v, .int .i64 (m'.d 1).c, .int .i64 (m'.d 1).q, .int .i64 (m'.d 1).v, .int .i64 (m'.d 2).c, .int .i64 (m'.d 2).q, .int .i64 (m'.d 2).v, .int .i64 (m'.d 3).c, .int .i64 (m'.d 3).q, .int .i64 (m'.d 3).v]) B m'.cs := hmp.kept (by
        unfold World.setRow
        rw [Array.getElem?_modify, if_neg (by omega)])
      refine bodyPost_ret (v := .agg #[.int .i64 m'.ix, .int .i64 m'.ep, .map (some B), .int .i64 (m'.d 0).c, .int .i64 (m'.d 0).q, .int .i64 (m'.d 0).v, .int .i64 (m'.d 1).c, .int .i64 (m'.d 1).q, .int .i64 (m'.d 1).v, .int .i64 (m'.d 2).c, .int .i64 (m'.d 2).q, .int .i64 (m'.d 2).v, .int .i64 (m'.d 3).c, .int .i64 (m'.d 3).q, .int .i64 (m'.d 3).v]) (results_cell_row rfl _ _ (g + 1) _ _ _ _ rfl hbr Tryd.underlying85 rfl infoSm) rfl ?_
      rw [HE.out]
      exact ⟨B, rfl, hmp2, by omega, hbl⟩

end Go.Proofs.YtnbgdkdnlfomeaaDoor.M
