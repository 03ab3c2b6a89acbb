/-
  Own text: the sums of a table; a new shelf.
-/
import Derived.Test.YtnbgdkdnlfomeaaDoorBAd
namespace Go.Proofs.YtnbgdkdnlfomeaaDoor.M
open Go.ChangeShapes Go.WideShapes Go.ChangeAt Go.RowKit Go.ChangeMaps Go.MapKept Go.Maps Go.Shelf Go.Proofs
set_option linter.unusedSimpArgs false

/-- While records are put: the sums in block g, their map in block b, room for the answer behind g. -/
structure WT (w : World) (g r b : Nat) (m : Sm) (W : World) : Prop where
  bel : Below w.heap.size w W
  sm : SumAt W g m b
  box : SumAt W r .z0 0 ∨ At 85 W r #[.int .i64 0, .int .i64 0, .map none, .int .i64 0, .int .i64 0, .int .i64 0, .int .i64 0, .int .i64 0, .int .i64 0, .int .i64 0, .int .i64 0, .int .i64 0, .int .i64 0, .int .i64 0, .int .i64 0]
  mp : MC W b m.cs
  hg : w.heap.size ≤ g
  hb : r ≠ g ∧ b ≠ g ∧ r ≠ b
  hr : w.heap.size ≤ r ∧ w.heap.size ≤ b

theorem WT.below {w W W' : World} {g r b : Nat} {m : Sm} (h : WT w g r b m W) (hb : Below W.heap.size W W') : WT w g r b m W' :=
  ⟨h.bel.trans (hb.mono h.bel.size), At.below h.sm hb, h.box.imp (fun h => At.below h hb) (fun h => At.below h hb), h.mp.below hb, h.hg, h.hb, h.hr⟩

theorem WT.other {w W W' : World} {g r b : Nat} {m m' : Sm} (h : WT w g r b m W) (hbel : Below w.heap.size W W') (hs : SumAt W' g m' b) (hcs : m'.cs = m.cs) (hx : ∀ j, j ≠ g → W'.heap[j]? = W.heap[j]?) : WT w g r b m' W' := by
  have h1 := h.hb
  refine ⟨h.bel.trans hbel, hs, ?_, by rw [hcs]; exact h.mp.kept (hx b h1.2.1), h.hg, h.hb, h.hr⟩
  rcases h.box with h2 | h2
  · exact Or.inl (by unfold SumAt At at *; rw [hx r (by first | exact h1.1 | exact hb.2.2)]; exact h2)
  · exact Or.inr (by unfold At at *; rw [hx r (by first | exact h1.1 | exact hb.2.2)]; exact h2)

theorem WT.setIE {w W : World} {g r b : Nat} {m : Sm} (h : WT w g r b m W) (i e : Int) : WT w g r b ⟨i, e, m.cs, m.d⟩ ((W.setCell ⟨g, 0, none⟩ (.int .i64 i)).setCell ⟨g, 1, none⟩ (.int .i64 e)) :=
  h.other (((Below.refl _ W).setCell (p := ⟨g, 0, none⟩) h.hg _).setCell (p := ⟨g, 1, none⟩) h.hg _) (h.sm.setIE i e) rfl fun j hj => by rw [heap_setC _ _ _ _ _ hj, heap_setC _ _ _ _ _ hj]

theorem WT.setEI {w W : World} {g r b : Nat} {m : Sm} (h : WT w g r b m W) (i e : Int) : WT w g r b ⟨i, e, m.cs, m.d⟩ ((W.setCell ⟨g, 1, none⟩ (.int .i64 e)).setCell ⟨g, 0, none⟩ (.int .i64 i)) :=
  h.other (((Below.refl _ W).setCell (p := ⟨g, 1, none⟩) h.hg _).setCell (p := ⟨g, 0, none⟩) h.hg _) (h.sm.setEI i e) rfl fun j hj => by rw [heap_setC _ _ _ _ _ hj, heap_setC _ _ _ _ _ hj]

theorem WT.setD {w W : World} {g r b : Nat} {m : Sm} (h : WT w g r b m W) (cn : Nat) (hc : cn < 4) (c q v : Int) :
    WT w g r b ⟨m.ix, m.ep, m.cs, fun i => if (i : Int) = (cn : Int) then ⟨c, q, v⟩ else m.d i⟩ (((W.setCell ⟨g, 3 + cn * 3, none⟩ (.int .i64 c)).setCell ⟨g, 3 + cn * 3 + 1, none⟩ (.int .i64 q)).setCell ⟨g, 3 + cn * 3 + 2, none⟩ (.int .i64 v)) :=
  h.other ((((Below.refl _ W).setCell (p := ⟨g, 3 + cn * 3, none⟩) h.hg _).setCell (p := ⟨g, 3 + cn * 3 + 1, none⟩) h.hg _).setCell (p := ⟨g, 3 + cn * 3 + 2, none⟩) h.hg _) (h.sm.setD cn hc c q v) rfl fun j hj => by rw [heap_setC _ _ _ _ _ hj, heap_setC _ _ _ _ _ hj, heap_setC _ _ _ _ _ hj]

theorem WT.put {w W : World} {g r b : Nat} {m : Sm} (h : WT w g r b m W) {k : Nat} (hk : k < 18446744073709551616) (v : Int) (s : ByteArray) :
    ∃ o, (Instr.mapUpdate 80 (.map (some b)) (.agg #[.int .u8 (bt (k) 0), .int .u8 (bt (k) 1), .int .u8 (bt (k) 2), .int .u8 (bt (k) 3), .int .u8 (bt (k) 4), .int .u8 (bt (k) 5), .int .u8 (bt (k) 6), .int .u8 (bt (k) 7)]) (.agg #[.int .u8 (bt (Ce.mk k v s).k 0), .int .u8 (bt (Ce.mk k v s).k 1), .int .u8 (bt (Ce.mk k v s).k 2), .int .u8 (bt (Ce.mk k v s).k 3), .int .u8 (bt (Ce.mk k v s).k 4), .int .u8 (bt (Ce.mk k v s).k 5), .int .u8 (bt (Ce.mk k v s).k 6), .int .u8 (bt (Ce.mk k v s).k 7), .int .i64 (Ce.mk k v s).v, .string (Ce.mk k v s).s])).run Tryd.prog W = .ok () (setBlock W b o) ∧ WT w g r b ⟨m.ix, m.ep, putC m.cs ⟨k, v, s⟩, m.d⟩ (setBlock W b o) := by
  obtain ⟨o, h1, h2⟩ := h.mp.put (c := ⟨k, v, s⟩) hk
  have hlt := h.mp.lt
  have hx : ∀ j, j ≠ b → (setBlock W b o).heap[j]? = W.heap[j]? := fun j hj => heap_setBlock_ne W b j o hj
  have hb := h.hb
  have hg := h.hg
  refine ⟨o, h1, h.bel.trans ⟨rfl, rfl, rfl, by simp [setBlock], fun j hj => hx j (fun e => by have := h.hr.2; omega)⟩, ?_, ?_, h2 _ (heap_setBlock W b o hlt), h.hg, h.hb, h.hr⟩
  · have := h.sm
    unfold SumAt At at *
    rw [hx g (fun e => hb.2.1 e.symm)]
    exact this
  · rcases h.box with h2 | h2
    · exact Or.inl (by unfold SumAt At at *; rw [hx r (by first | exact h1.1 | exact hb.2.2)]; exact h2)
    · exact Or.inr (by unfold At at *; rw [hx r (by first | exact h1.1 | exact hb.2.2)]; exact h2)

/-- A cell more, what a client got more. -/
def Sm.cel (m : Sm) (c : Ce) : Sm := ⟨m.ix, m.ep, putC m.cs c, m.d⟩
def Sm.don (m : Sm) (x : Dn) : Sm := ⟨m.ix, m.ep, m.cs, fun i => if (i : Int) = x.c then x else m.d i⟩

/-- The sums of a table. -/
def smOf (ix ep : Int) (C : List Ce) (D : List Dn) : Sm := D.foldl Sm.don (C.foldl Sm.cel ⟨ix, ep, [], fun _ => .z0⟩)

theorem cel_box {w : World} {g : Nat} {x : Ce} (h : At 53 w g #[.int .u8 (bt x.k 0), .int .u8 (bt x.k 1), .int .u8 (bt x.k 2), .int .u8 (bt x.k 3), .int .u8 (bt x.k 4), .int .u8 (bt x.k 5), .int .u8 (bt x.k 6), .int .u8 (bt x.k 7), .int .i64 x.v, .string x.s]) : w.cell? ⟨g, 0, none⟩ = some (.int .u8 (bt x.k 0)) ∧ w.cell? ⟨g, 1, none⟩ = some (.int .u8 (bt x.k 1)) ∧ w.cell? ⟨g, 2, none⟩ = some (.int .u8 (bt x.k 2)) ∧ w.cell? ⟨g, 3, none⟩ = some (.int .u8 (bt x.k 3)) ∧ w.cell? ⟨g, 4, none⟩ = some (.int .u8 (bt x.k 4)) ∧ w.cell? ⟨g, 5, none⟩ = some (.int .u8 (bt x.k 5)) ∧ w.cell? ⟨g, 6, none⟩ = some (.int .u8 (bt x.k 6)) ∧ w.cell? ⟨g, 7, none⟩ = some (.int .u8 (bt x.k 7)) ∧ w.cell? ⟨g, 8, none⟩ = some (.int .i64 x.v) ∧ w.cell? ⟨g, 9, none⟩ = some (.string x.s) :=
  ⟨At.cell h 0, At.cell h 1, At.cell h 2, At.cell h 3, At.cell h 4, At.cell h 5, At.cell h 6, At.cell h 7, At.cell h 8, At.cell h 9⟩

theorem don_box {w : World} {g : Nat} {x : Dn} (h : At 82 w g #[.int .i64 x.c, .int .i64 x.q, .int .i64 x.v]) : w.cell? ⟨g, 0, none⟩ = some (.int .i64 x.c) ∧ w.cell? ⟨g, 1, none⟩ = some (.int .i64 x.q) ∧ w.cell? ⟨g, 2, none⟩ = some (.int .i64 x.v) :=
  ⟨At.cell h 0, At.cell h 1, At.cell h 2⟩

set_option maxRecDepth 20000 in
set_option maxHeartbeats 4000000 in
theorem sumsOf_any (ix ep : Int) (cp : Option Addr) (cn cc : Nat) (C : List Ce) (dp : Option Addr) (dn dc : Nat) (D : List Dn) (w : World) (hC : RdG celS w cp cn cc C) (hD : RdG donS w dp dn dc D)
    (hck : ∀ c ∈ C, c.k < 18446744073709551616) (hdc : ∀ d ∈ D, 0 ≤ d.c ∧ d.c < 4) (hcn : cn ≤ 1099511627776) (hdn : dn ≤ 1099511627776) :
    Calls Tryd.prog 60 #[.agg #[.int .i64 ix, .int .i64 ep, .slice cp cn cc, .slice dp dn dc]] w fun e w' => ∃ b, e = .returned (.agg #[.int .i64 (smOf ix ep C D).ix, .int .i64 (smOf ix ep C D).ep, .map (some b), .int .i64 ((smOf ix ep C D).d 0).c, .int .i64 ((smOf ix ep C D).d 0).q, .int .i64 ((smOf ix ep C D).d 0).v, .int .i64 ((smOf ix ep C D).d 1).c, .int .i64 ((smOf ix ep C D).d 1).q, .int .i64 ((smOf ix ep C D).d 1).v, .int .i64 ((smOf ix ep C D).d 2).c, .int .i64 ((smOf ix ep C D).d 2).q, .int .i64 ((smOf ix ep C D).d 2).v, .int .i64 ((smOf ix ep C D).d 3).c, .int .i64 ((smOf ix ep C D).d 3).q, .int .i64 ((smOf ix ep C D).d 3).v]) ∧ MC w' b (smOf ix ep C D).cs ∧ w.heap.size ≤ b ∧ Below w.heap.size w w' := by
  have hmk := fun W => run_makeMap (P := Tryd.prog) 80 W
  go_enter Tryd.func60, Tryd.ntmps60
  go_wp2_with fail
  clear hmk
  obtain ⟨V, hV⟩ : ∃ V, V = ((((w.alloc (.cells #[.int .i64 ix, .int .i64 ep, .slice cp cn cc, .slice dp dn dc] 25)).alloc (.cells #[.int .i64 0, .int .i64 0, .map none, .int .i64 0, .int .i64 0, .int .i64 0, .int .i64 0, .int .i64 0, .int .i64 0, .int .i64 0, .int .i64 0, .int .i64 0, .int .i64 0, .int .i64 0, .int .i64 0] 85)).alloc (.map #[] 0)).alloc (.cells #[.int .i64 ix, .int .i64 ep, .map (some (w.heap.size + 1 + 1)), .int .i64 0, .int .i64 0, .int .i64 0, .int .i64 0, .int .i64 0, .int .i64 0, .int .i64 0, .int .i64 0, .int .i64 0, .int .i64 0, .int .i64 0, .int .i64 0] 85)) := ⟨_, rfl⟩
  have e1 : (w.alloc (.cells #[.int .i64 ix, .int .i64 ep, .slice cp cn cc, .slice dp dn dc] 25)).heap.size = w.heap.size + 1 := by simp
  have e2 : ((w.alloc (.cells #[.int .i64 ix, .int .i64 ep, .slice cp cn cc, .slice dp dn dc] 25)).alloc (.cells #[.int .i64 0, .int .i64 0, .map none, .int .i64 0, .int .i64 0, .int .i64 0, .int .i64 0, .int .i64 0, .int .i64 0, .int .i64 0, .int .i64 0, .int .i64 0, .int .i64 0, .int .i64 0, .int .i64 0] 85)).heap.size = w.heap.size + 1 + 1 := by simp
  have e3 : (((w.alloc (.cells #[.int .i64 ix, .int .i64 ep, .slice cp cn cc, .slice dp dn dc] 25)).alloc (.cells #[.int .i64 0, .int .i64 0, .map none, .int .i64 0, .int .i64 0, .int .i64 0, .int .i64 0, .int .i64 0, .int .i64 0, .int .i64 0, .int .i64 0, .int .i64 0, .int .i64 0, .int .i64 0, .int .i64 0] 85)).alloc (.map #[] 0)).heap.size = w.heap.size + 1 + 1 + 1 := by simp
  have hT0 : At 25 V w.heap.size #[.int .i64 ix, .int .i64 ep, .slice cp cn cc, .slice dp dn dc] := by rw [hV]; exact (((At.new _ w _).alloc _).alloc _).alloc _
  have hW0 : WT w (w.heap.size + 1 + 1 + 1) (w.heap.size + 1) (w.heap.size + 1 + 1) ⟨ix, ep, [], fun _ => .z0⟩ V := by
    refine ⟨?_, ?_, Or.inr ?_, ?_, by omega, by omega, by omega⟩
    · rw [hV]
      have h1 := below_alloc' w (.cells #[.int .i64 ix, .int .i64 ep, .slice cp cn cc, .slice dp dn dc] 25)
      exact ((h1.alloc (by omega) _).alloc (by omega) _).alloc (by omega) _
    · rw [hV, ← e3]
      exact At.new _ _ _
    · rw [hV, ← e1]
      exact ((At.new _ _ _).alloc _).alloc _
    · rw [hV, ← e2]
      exact (MC.made _).below (below_alloc' _ _)
  rw [← hV]
  clear hV e1 e2 e3
  have hHg : Hid (w.heap.size ≤ w.heap.size + 1 + 1 + 1 ∧ w.heap.size ≤ w.heap.size + 1) := by unfold Hid; omega
  have hHt : Hid (w.heap.size ≠ w.heap.size + 1 + 1 + 1 ∧ w.heap.size ≠ w.heap.size + 1 + 1) := by unfold Hid; omega
  generalize w.heap.size + 1 + 1 + 1 = g at *
  generalize w.heap.size + 1 + 1 = B at *
  generalize w.heap.size + 1 = rr at *
  have hHM : Hid (smOf ix ep C D = D.foldl Sm.don ((C.drop 0).foldl Sm.cel ⟨ix, ep, [], fun _ => .z0⟩)) := rfl
  have hlC := hC.len
  have hlD := hD.len
  go_loopw [17] (fun vi wr => ∃ (k : Nat) (m : Sm), k ≤ cn ∧ vi = .int .i64 k ∧ WT w g rr B m wr ∧ At 25 wr w.heap.size #[.int .i64 ix, .int .i64 ep, .slice cp cn cc, .slice dp dn dc] ∧ Hid (smOf ix ep C D = D.foldl Sm.don ((C.drop k).foldl Sm.cel m))) (fun vi _ => cn - (intOf vi).toNat)
  case atStart => exact ⟨0, _, Nat.zero_le _, rfl, hW0, hT0, hHM⟩
  case round =>
    clear hW0 hT0 hHM
    obtain ⟨k, m, hk, rfl, hS, hTb, HM⟩ := hrel
    by_cases hkn : k < cn
    · have hki : (k : Int) < (cn : Int) := by omega
      obtain ⟨bb, o, rfl, hc⟩ := (hC.below hS.bel).ces (by omega)
      obtain ⟨x0, x1, x2, x3, x4, x5, x6, x7, x8, x9⟩ := hc k hkn
      clear hc
      have hkl : k < C.length := by omega
      have hok := hck (C.getD k .z0) (by rw [List.getD_eq_getElem?_getD, List.getElem?_eq_getElem hkl]; exact List.getElem_mem hkl)
      have HM2 : Hid (smOf ix ep C D = D.foldl Sm.don ((C.drop (k + 1)).foldl Sm.cel (m.cel (C.getD k .z0)))) := by
        unfold Hid
        rw [HM.out, List.drop_eq_getElem_cons hkl, List.getD_eq_getElem?_getD, List.getElem?_eq_getElem hkl]
        rfl
      clear HM hkl
      generalize C.getD k .z0 = x at *
      obtain ⟨xk, xv, xs⟩ := x
      dsimp only at *
      have hba := below_alloc' wr (.cells #[.int .u8 (bt (Ce.mk xk xv xs).k 0), .int .u8 (bt (Ce.mk xk xv xs).k 1), .int .u8 (bt (Ce.mk xk xv xs).k 2), .int .u8 (bt (Ce.mk xk xv xs).k 3), .int .u8 (bt (Ce.mk xk xv xs).k 4), .int .u8 (bt (Ce.mk xk xv xs).k 5), .int .u8 (bt (Ce.mk xk xv xs).k 6), .int .u8 (bt (Ce.mk xk xv xs).k 7), .int .i64 (Ce.mk xk xv xs).v, .string (Ce.mk xk xv xs).s] 53)
      have hX : At 53 (wr.alloc (.cells #[.int .u8 (bt (Ce.mk xk xv xs).k 0), .int .u8 (bt (Ce.mk xk xv xs).k 1), .int .u8 (bt (Ce.mk xk xv xs).k 2), .int .u8 (bt (Ce.mk xk xv xs).k 3), .int .u8 (bt (Ce.mk xk xv xs).k 4), .int .u8 (bt (Ce.mk xk xv xs).k 5), .int .u8 (bt (Ce.mk xk xv xs).k 6), .int .u8 (bt (Ce.mk xk xv xs).k 7), .int .i64 (Ce.mk xk xv xs).v, .string (Ce.mk xk xv xs).s] 53)) wr.heap.size #[.int .u8 (bt (Ce.mk xk xv xs).k 0), .int .u8 (bt (Ce.mk xk xv xs).k 1), .int .u8 (bt (Ce.mk xk xv xs).k 2), .int .u8 (bt (Ce.mk xk xv xs).k 3), .int .u8 (bt (Ce.mk xk xv xs).k 4), .int .u8 (bt (Ce.mk xk xv xs).k 5), .int .u8 (bt (Ce.mk xk xv xs).k 6), .int .u8 (bt (Ce.mk xk xv xs).k 7), .int .i64 (Ce.mk xk xv xs).v, .string (Ce.mk xk xv xs).s] := At.new _ _ _
      have hS1 := hS.below hba
      have hTb1 := At.below hTb hba
      obtain ⟨y0, y1, y2, y3, y4, y5, y6, y7, y8, y9⟩ := cel_box hX
      obtain ⟨o2, hput, hS3⟩ := hS1.put hok xv xs
      have g2 := (hS1.sm.cells).2.2.1
      have hTb3 := At.same (w' := setBlock (wr.alloc (.cells #[.int .u8 (bt (Ce.mk xk xv xs).k 0), .int .u8 (bt (Ce.mk xk xv xs).k 1), .int .u8 (bt (Ce.mk xk xv xs).k 2), .int .u8 (bt (Ce.mk xk xv xs).k 3), .int .u8 (bt (Ce.mk xk xv xs).k 4), .int .u8 (bt (Ce.mk xk xv xs).k 5), .int .u8 (bt (Ce.mk xk xv xs).k 6), .int .u8 (bt (Ce.mk xk xv xs).k 7), .int .i64 (Ce.mk xk xv xs).v, .string (Ce.mk xk xv xs).s] 53)) B o2) hTb1 (heap_setBlock_ne _ B _ o2 hHt.out.2)
      dsimp only at *
      clear hS hTb hba hX hS1 hTb1
      go_wp2_with fail
      exact ⟨⟨k + 1, _, by omega, by go_num, hS3, hTb3, HM2⟩, by simp [intOf]; omega⟩
    · have HM2 : Hid (smOf ix ep C D = (D.drop 0).foldl Sm.don m) := by
        unfold Hid
        rw [HM.out, List.drop_of_length_le (by omega)]
        rfl
      have hki : ¬ (k : Int) < (cn : Int) := by omega
      have t3 : wr.cell? ⟨w.heap.size, 3, none⟩ = some (.slice dp dn dc) := At.cell hTb 3
      clear hC HM hTb hck
      go_wp2_with fail
      clear t3
      go_loopw [30] (fun vi wr => ∃ (k : Nat) (m : Sm), k ≤ dn ∧ vi = .int .i64 k ∧ WT w g rr B m wr ∧ Hid (smOf ix ep C D = (D.drop k).foldl Sm.don m)) (fun vi _ => dn - (intOf vi).toNat)
      case atStart => exact ⟨0, _, Nat.zero_le _, rfl, hS, HM2⟩
      case round =>
        clear hS HM2 hk hkn hki
        obtain ⟨k, m, hk, rfl, hS, HM⟩ := hrel
        by_cases hkn : k < dn
        · have hki : (k : Int) < (dn : Int) := by omega
          obtain ⟨bb, o, rfl, hc⟩ := (hD.below hS.bel).dns (by omega)
          obtain ⟨x0, x1, x2⟩ := hc k hkn
          clear hc
          have hkl : k < D.length := by omega
          have hok := hdc (D.getD k .z0) (by rw [List.getD_eq_getElem?_getD, List.getElem?_eq_getElem hkl]; exact List.getElem_mem hkl)
          have HM2 : Hid (smOf ix ep C D = (D.drop (k + 1)).foldl Sm.don (m.don (D.getD k .z0))) := by
            unfold Hid
            rw [HM.out, List.drop_eq_getElem_cons hkl, List.getD_eq_getElem?_getD, List.getElem?_eq_getElem hkl]
            rfl
          clear HM hkl
          generalize D.getD k .z0 = x at *
          obtain ⟨xc, xq, xv⟩ := x
          dsimp only at *
          obtain ⟨cnn, rfl⟩ : ∃ cnn : Nat, xc = (cnn : Int) := ⟨xc.toNat, by omega⟩
          have hcn4 : cnn < 4 := by omega
          have hc4 : (cnn : Int) < 4 := by omega
          have hba := below_alloc' wr (.cells #[.int .i64 (Dn.mk (cnn : Int) xq xv).c, .int .i64 (Dn.mk (cnn : Int) xq xv).q, .int .i64 (Dn.mk (cnn : Int) xq xv).v] 82)
          have hX : At 82 (wr.alloc (.cells #[.int .i64 (Dn.mk (cnn : Int) xq xv).c, .int .i64 (Dn.mk (cnn : Int) xq xv).q, .int .i64 (Dn.mk (cnn : Int) xq xv).v] 82)) wr.heap.size #[.int .i64 (Dn.mk (cnn : Int) xq xv).c, .int .i64 (Dn.mk (cnn : Int) xq xv).q, .int .i64 (Dn.mk (cnn : Int) xq xv).v] := At.new _ _ _
          have hS1 := hS.below hba
          obtain ⟨y0, y1, y2⟩ := don_box hX
          obtain ⟨d0, d1, d2⟩ := hS1.sm.dcell cnn hcn4
          have e0 := At.free hS1.sm (3 + cnn * 3)
          have e1 := At.free hS1.sm (3 + cnn * 3 + 1)
          have e2 := At.free hS1.sm (3 + cnn * 3 + 2)
          have hS4 := hS1.setD cnn hcn4 (cnn : Int) xq xv
          dsimp only at *
          clear hS hX hS1 hok
          generalize hV3 : (wr.alloc (.cells #[.int .i64 (Dn.mk (cnn : Int) xq xv).c, .int .i64 (Dn.mk (cnn : Int) xq xv).q, .int .i64 (Dn.mk (cnn : Int) xq xv).v] 82)) = V3 at *
          have q1 : (V3.setCell ⟨g, 3 + cnn * 3, none⟩ (.int .i64 (cnn : Int))).cell? ⟨g, 3 + cnn * 3 + 1, none⟩ = some (.int .i64 (m.d cnn).q) := by rw [World.cell?_setCell_other (h := fun e => absurd (congrArg Addr.off e) (by simp))]; exact d1
          have q2 : ((V3.setCell ⟨g, 3 + cnn * 3, none⟩ (.int .i64 (cnn : Int))).setCell ⟨g, 3 + cnn * 3 + 1, none⟩ (.int .i64 xq)).cell? ⟨g, 3 + cnn * 3 + 2, none⟩ = some (.int .i64 (m.d cnn).v) := by rw [World.cell?_setCell_other (h := fun e => absurd (congrArg Addr.off e) (by simp)), World.cell?_setCell_other (h := fun e => absurd (congrArg Addr.off e) (by simp))]; exact d2
          go_wp2_with fail
          exact ⟨⟨k + 1, _, by omega, by go_num, hS4, HM2⟩, by simp [intOf]; omega⟩
        · have HE : Hid (smOf ix ep C D = m) := by
            unfold Hid
            rw [HM.out, List.drop_of_length_le (by omega)]
            rfl
          have hki : ¬ (k : Int) < (dn : Int) := by omega
          obtain ⟨cs0, hbox, hbs⟩ : ∃ cs0 : Array Value, At 85 wr rr cs0 ∧ cs0.size = 15 := by
            rcases hS.box with h | h
            · exact ⟨_, h, rfl⟩
            · exact ⟨_, h, rfl⟩
          have hsm := hS.sm
          have hmp := hS.mp
          have hbel := hS.bel
          have hne := hS.hb
          have hrw := hS.hr
          clear hD HM hS
          go_wp2_with (first | refine wpList_load_row rfl 85 _ rfl g rfl _ _ _ _ hsm Tryd.underlying85 rfl infoSm ?_ | refine wpList_store_row rfl 85 _ _ rfl rr #[.int .i64 m.ix, .int .i64 m.ep, .map (some B), .int .i64 (m.d 0).c, .int .i64 (m.d 0).q, .int .i64 (m.d 0).v, .int .i64 (m.d 1).c, .int .i64 (m.d 1).q, .int .i64 (m.d 1).v, .int .i64 (m.d 2).c, .int .i64 (m.d 2).q, .int .i64 (m.d 2).v, .int .i64 (m.d 3).c, .int .i64 (m.d 3).q, .int .i64 (m.d 3).v] rfl rfl _ _ hbox infoSm hbs oneSm ?_)
          have hbr : At 85 (wr.setRow rr #[.int .i64 m.ix, .int .i64 m.ep, .map (some B), .int .i64 (m.d 0).c, .int .i64 (m.d 0).q, .int .i64 (m.d 0).v, .int .i64 (m.d 1).c, .int .i64 (m.d 1).q, .int .i64 (m.d 1).v, .int .i64 (m.d 2).c, .int .i64 (m.d 2).q, .int .i64 (m.d 2).v, .int .i64 (m.d 3).c, .int .i64 (m.d 3).q, .int .i64 (m.d 3).v]) rr #[.int .i64 m.ix, .int .i64 m.ep, .map (some B), .int .i64 (m.d 0).c, .int .i64 (m.d 0).q, .int .i64 (m.d 0).v, .int .i64 (m.d 1).c, .int .i64 (m.d 1).q, .int .i64 (m.d 1).v, .int .i64 (m.d 2).c, .int .i64 (m.d 2).q, .int .i64 (m.d 2).v, .int .i64 (m.d 3).c, .int .i64 (m.d 3).q, .int .i64 (m.d 3).v] := At.row hbox _
          have hbl := hbel.trans (below_setRow (B := w.heap.size) wr rr #[.int .i64 m.ix, .int .i64 m.ep, .map (some B), .int .i64 (m.d 0).c, .int .i64 (m.d 0).q, .int .i64 (m.d 0).v, .int .i64 (m.d 1).c, .int .i64 (m.d 1).q, .int .i64 (m.d 1).v, .int .i64 (m.d 2).c, .int .i64 (m.d 2).q, .int .i64 (m.d 2).v, .int .i64 (m.d 3).c, .int .i64 (m.d 3).q, .int .i64 (m.d 3).v] hrw.1)
          have hmp2 : MC (wr.setRow rr #[.int .i64 m.ix, .int .i64 m.ep, .map (some B), .int .i64 (m.d 0).c, .int .i64 (m.d 0).q, .int .i64 (m.d 0).v, .int .i64 (m.d 1).c, .int .i64 (m.d 1).q, .int .i64 (m.d 1).v, .int .i64 (m.d 2).c, .int .i64 (m.d 2).q, .int .i64 (m.d 2).v, .int .i64 (m.d 3).c, .int .i64 (m.d 3).q, .int .i64 (m.d 3).v]) B m.cs := hmp.kept (by
            unfold World.setRow
            rw [Array.getElem?_modify, if_neg hne.2.2])
          refine bodyPost_ret (v := .agg #[.int .i64 m.ix, .int .i64 m.ep, .map (some B), .int .i64 (m.d 0).c, .int .i64 (m.d 0).q, .int .i64 (m.d 0).v, .int .i64 (m.d 1).c, .int .i64 (m.d 1).q, .int .i64 (m.d 1).v, .int .i64 (m.d 2).c, .int .i64 (m.d 2).q, .int .i64 (m.d 2).v, .int .i64 (m.d 3).c, .int .i64 (m.d 3).q, .int .i64 (m.d 3).v]) (results_cell_row rfl _ _ rr _ _ _ _ rfl hbr Tryd.underlying85 rfl infoSm) rfl ?_
          rw [HE.out]
          exact ⟨B, rfl, hmp2, hrw.2, hbl⟩

end Go.Proofs.YtnbgdkdnlfomeaaDoor.M
