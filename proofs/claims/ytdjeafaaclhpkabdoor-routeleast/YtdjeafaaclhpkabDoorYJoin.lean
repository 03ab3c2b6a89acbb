/-
  Own text: what becomes of a chain: the contract of layout's Join.
-/
import Derived.Test.YtdjeafaaclhpkabDoorYChg2
import Derived.Test.YtdjeafaaclhpkabDoorDet2
namespace Go.Proofs.YtdjeafaaclhpkabDoor.M
open Go.ChangeShapes Go.WideShapes Go.ChangeAt Go.RowKit

theorem wp_enterE {P : Program} {op : Oper} {a : Act} {w : World} {K : Act → World → Prop} {Q : Exit → Act → World → Prop} (f : FuncId) (args : Array Value) (he : (execOp a.eval op).run P w = .ok (.enter f args) w) (R : Value → World → Prop) (hc : Calls P f args w fun e w' => ∃ v, e = .returned v ∧ R v w') (h : ∀ v w', R v w' → K (a.put op.dst v) w') : op.wp P a w K Q := by
  unfold Oper.wp
  rw [he]
  refine Calls.mono hc ?_
  rintro e w' ⟨v, rfl, hR⟩
  exact h v w' hR

theorem wp_value {P : Program} {op : Oper} {a : Act} {w : World} {K : Act → World → Prop} {Q : Exit → Act → World → Prop} (v : Value) (w' : World) (he : (execOp a.eval op).run P w = .ok (.value v) w') (h : K (a.put op.dst v) w') : op.wp P a w K Q := by
  unfold Oper.wp
  rw [he]
  exact h

theorem owns_below {w w' : World} {B : Nat} {e : TypeId} {size n : Nat} {v : Value} {xs : List Value} (h : w.ownsRow B e size v n xs) (hb : Below w.heap.size w w') : w'.ownsRow B e size v n xs := by
  refine ⟨h.1, ?_⟩
  rcases h.2 with h2 | ⟨g, cap, cur, hv, hg, hh, r⟩
  · exact Or.inl h2
  · exact Or.inr ⟨g, cap, cur, hv, hg, by rw [hb.block g (Array.getElem?_eq_some_iff.1 hh).1]; exact hh, r⟩

theorem one2 (e : Int) (q : Option Addr) (n c : Nat) : (#[Value.int .i64 e, Value.slice q n c].all (·.oneCell')) = true :=
  all_oneCell_toArray (cs := [Value.int .i64 e, Value.slice q n c]) (fun v hv => by
    simp only [List.mem_cons, List.not_mem_nil, or_false] at hv
    rcases hv with rfl | rfl <;> rfl)

/-- All that lay in w lies as it did. -/
def Bl (w W : World) : Prop := Below w.heap.size w W

theorem Bl.stays (w : World) : Stays (Bl w) := fun _ _ h hb => h.trans (hb.mono h.size)

/-- .. and a row of members is the call's own. -/
def Bo (w : World) (g N n : Nat) (ms : List Mb) (W : World) : Prop := Bl w W ∧ W.ownsRow w.heap.size 39 3 (.slice (some ⟨g, 0, none⟩) n N) n (cellsM ms n)

theorem Bo.stays (w : World) (g N n : Nat) (ms : List Mb) : Stays (Bo w g N n ms) := fun W W' h hb => ⟨Bl.stays w W W' h.1 hb, owns_below h.2 hb⟩

/-- .. and a member lies in a block of its own. -/
def Bv (w : World) (vb : Nat) (m : Mb) (W : World) : Prop := Bl w W ∧ W.heap[vb]? = some (.cells m.cs.toArray 39)

theorem Bv.stays (w : World) (vb : Nat) (m : Mb) : Stays (Bv w vb m) := fun W W' h hb => ⟨Bl.stays w W W' h.1 hb, (hb.block vb (Array.getElem?_eq_some_iff.1 h.2).1).trans h.2⟩

/-- .. and members can be read. -/
def Br (w : World) (q : Option Addr) (n c : Nat) (ms : List Mb) (W : World) : Prop := Bl w W ∧ RdM W q n c ms

theorem Br.stays (w : World) (q : Option Addr) (n c : Nat) (ms : List Mb) : Stays (Br w q n c ms) := fun W W' h hb => ⟨Bl.stays w W W' h.1 hb, h.2.below hb⟩

/-- What is there in the end: the answer's box holds a chain that can be read. -/
def Bz (b : Nat) (w : World) (r : Nat) (e : Int) (q : Option Addr) (n c : Nat) (ms : List Mb) (W : World) : Prop := Below b w W ∧ RdM W q n c ms ∧ W.cell? ⟨r, 0, none⟩ = some (.int .i64 e) ∧ W.cell? ⟨r, 1, none⟩ = some (.slice q n c) ∧ b ≤ W.heap.size

theorem Bz.stays (b : Nat) (w : World) (r : Nat) (e : Int) (q : Option Addr) (n c : Nat) (ms : List Mb) : Stays (Bz b w r e q n c ms) := fun _ _ h hb =>
  ⟨h.1.trans (hb.mono h.2.2.2.2), h.2.1.below hb, (hb.cell (p := ⟨r, 0, none⟩) (World.block_lt_of_cell? _ _ h.2.2.1)).trans h.2.2.1, (hb.cell (p := ⟨r, 1, none⟩) (World.block_lt_of_cell? _ _ h.2.2.2.1)).trans h.2.2.2.1, Nat.le_trans h.2.2.2.2 hb.size⟩

/-- A chain with a node behind those of its site. -/
def joinR (e : Int) (ms : List Mb) (m : Mb) : CR :=
  if chk e ms = false then .error 80 else if isMb m = false then .error 81 else
  if hasN (thN (fun _ => true) 0 ms) m.n = true then .error 82 else if 1099511627776 ≤ e then .error 5 else
  if behM ms m.s = 0 then .error 152 else .ok (e + 1, insM ms (behM ms m.s).toNat ⟨m.n, m.s, true⟩)

theorem RdM.set1 {W : World} {q : Option Addr} {n c b j : Nat} {ms : List Mb} (h : RdM W q n c ms) (v : Value) (hq : ∀ a, q = some a → 0 < n → a.block ≠ b) : RdM (W.setCell ⟨b, j, none⟩ v) q n c ms := by
  refine ⟨h.len, h.cap, h.nil, fun hn => ?_⟩
  obtain ⟨g, o, rfl, hc⟩ := h.cells hn
  have hne := hq _ rfl hn
  have e : ∀ i, (W.setCell ⟨b, j, none⟩ v).cell? ⟨g, i, none⟩ = W.cell? ⟨g, i, none⟩ := fun i => World.cell?_setCell_other _ _ _ _ (fun h => hne (congrArg Addr.block h).symm)
  exact ⟨g, o, rfl, fun i hi => by rw [e, e, e]; exact hc i hi⟩

theorem Gr.far {W : World} {b r x j : Nat} {e : Int} {p : Option Addr} {n c : Nat} (h : Gr W b r e p n c) (h1 : x ≠ b) (h2 : x ≠ r) (v : Value) : Gr (W.setCell ⟨x, j, none⟩ v) b r e p n c := by
  have e1 : ∀ i, (W.setCell ⟨x, j, none⟩ v).cell? ⟨b, i, none⟩ = W.cell? ⟨b, i, none⟩ := fun i => World.cell?_setCell_other _ _ _ _ (fun h => h1 (congrArg Addr.block h))
  have e2 : ∀ i, (W.setCell ⟨x, j, none⟩ v).cell? ⟨r, i, none⟩ = W.cell? ⟨r, i, none⟩ := fun i => World.cell?_setCell_other _ _ _ _ (fun h => h2 (congrArg Addr.block h))
  exact ⟨by rw [e1]; exact h.a0, by rw [e1]; exact h.a1, by rw [e2]; exact h.b0, by rw [e2]; exact h.b1, by rw [World.frozen?_setCell]; exact h.f0, by rw [World.frozen?_setCell]; exact h.f1, by simpa using h.lt, h.br⟩

theorem Below.undrew {W W' : World} (h : Below W.drew.heap.size W.drew W') : Below W.heap.size W W' := ⟨h.os, h.tape, h.output, h.size, h.block⟩

end Go.Proofs.YtdjeafaaclhpkabDoor.M
