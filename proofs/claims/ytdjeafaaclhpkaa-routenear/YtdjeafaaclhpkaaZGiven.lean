/-
  Own text: a chain whose members are cloned into a box of its own, in whichever order: conditions that stay.
-/
import Derived.Test.YtdjeafaaclhpkaaYRow
import Derived.Test.YtdjeafaaclhpkaaYSort
import Derived.Test.YtdjeafaaclhpkaaDet2
namespace Go.Proofs.Ytdjeafaaclhpkaa.M
open Go.ChangeShapes Go.WideShapes Go.ChangeAt Go.RowKit

theorem sizeC : (Try.prog.info? 33).map (·.size) = some 2 := by kernel_rfl

theorem RdM.put {W : World} {q : Option Addr} {n c b : Nat} {ms : List Mb} (h : RdM W q n c ms) (x y : Value) (hq : ∀ a, q = some a → 0 < n → a.block ≠ b) : RdM ((W.setCell ⟨b, 0, none⟩ x).setCell ⟨b, 1, none⟩ y) q n c ms := by
  refine ⟨h.len, h.cap, h.nil, fun hn => ?_⟩
  obtain ⟨g, o, rfl, hc⟩ := h.cells hn
  have hne := hq _ rfl hn
  have e : ∀ j, ((W.setCell ⟨b, 0, none⟩ x).setCell ⟨b, 1, none⟩ y).cell? ⟨g, j, none⟩ = W.cell? ⟨g, j, none⟩ := fun j => by
    rw [World.cell?_setCell_other (h := fun h => hne (congrArg Addr.block h).symm), World.cell?_setCell_other (h := fun h => hne (congrArg Addr.block h).symm)]
  exact ⟨g, o, rfl, fun i hi => by rw [e, e, e]; exact hc i hi⟩

theorem Gr.putB {W : World} {b r : Nat} {w : World} (h : Below b w W) (hr : b ≤ r) (x y : Value) : Below b w ((W.setCell ⟨r, 0, none⟩ x).setCell ⟨r, 1, none⟩ y) := (h.setCell hr x).setCell hr y

theorem cell_row {w : World} {b : Nat} {cs : Array Value} {t : TypeId} (h : w.heap[b]? = some (.cells cs t)) {j : Nat} {v : Value} (hj : cs[j]? = some v) : w.cell? ⟨b, j, none⟩ = some v := by
  unfold World.cell?
  dsimp only
  rw [h]
  exact hj

theorem Copy.tell {w : World} {B n : Nat} {ms : List Mb} {v : Value} (h : Copy w B n ms v) (hl : ms.length = n) : ∃ q c, v = .slice q n c ∧ (∀ a, q = some a → 0 < n → B ≤ a.block) ∧ RdM w q n c ms := by
  rcases h with ⟨rfl, q, rfl⟩ | ⟨h0, ho⟩
  · exact ⟨q, 0, rfl, fun _ _ h => absurd h (Nat.lt_irrefl _), hl, Nat.le_refl _, fun _ => rfl, fun h => absurd h (Nat.lt_irrefl _)⟩
  · obtain ⟨g, cap, rfl, hg, hr⟩ := Row.of_owns ho hl h0
    exact ⟨_, _, rfl, fun a ha _ => by cases ha; exact hg, hl ▸ hr.rd⟩

theorem wp_enterE {P : Program} {op : Oper} {a : Act} {w : World} {K : Act → World → Prop} {Q : Exit → Act → World → Prop} (f : FuncId) (args : Array Value) (he : (execOp a.eval op).run P w = .ok (.enter f args) w) (R : Value → World → Prop) (hc : Calls P f args w fun e w' => ∃ v, e = .returned v ∧ R v w') (h : ∀ v w', R v w' → K (a.put op.dst v) w') : op.wp P a w K Q := by
  unfold Oper.wp
  rw [he]
  refine Calls.mono hc ?_
  rintro e w' ⟨v, rfl, hR⟩
  exact h v w' hR

theorem wp_value {P : Program} {op : Oper} {a : Act} {w : World} {K : Act → World → Prop} {Q : Exit → Act → World → Prop} (v : Value) (w' : World) (he : (execOp a.eval op).run P w = .ok (.value v) w') (h : K (a.put op.dst v) w') : op.wp P a w K Q := by
  unfold Oper.wp
  rw [he]
  exact h

theorem one2 (e : Int) (q : Option Addr) (n c : Nat) : (#[Value.int .i64 e, Value.slice q n c].all (·.oneCell')) = true :=
  all_oneCell_toArray (cs := [Value.int .i64 e, Value.slice q n c]) (fun v hv => by
    simp only [List.mem_cons, List.not_mem_nil, or_false] at hv
    rcases hv with rfl | rfl <;> rfl)

/-- All that lay in w lies as it did. -/
def Bl (w W : World) : Prop := Below w.heap.size w W

theorem Bl.stays (w : World) : Stays (Bl w) := fun _ _ h hb => h.trans (hb.mono h.size)

/-- .. and members can be read. -/
def Br (w : World) (q : Option Addr) (n c : Nat) (ms : List Mb) (W : World) : Prop := Bl w W ∧ RdM W q n c ms

theorem Br.stays (w : World) (q : Option Addr) (n c : Nat) (ms : List Mb) : Stays (Br w q n c ms) := fun W W' h hb => ⟨Bl.stays w W W' h.1 hb, h.2.below hb⟩

/-- What is there in the end: the answer's box holds a chain that can be read. -/
def Bz (b : Nat) (w : World) (r : Nat) (e : Int) (q : Option Addr) (n c : Nat) (ms : List Mb) (W : World) : Prop := Below b w W ∧ RdM W q n c ms ∧ W.cell? ⟨r, 0, none⟩ = some (.int .i64 e) ∧ W.cell? ⟨r, 1, none⟩ = some (.slice q n c) ∧ b ≤ W.heap.size

theorem Bz.stays (b : Nat) (w : World) (r : Nat) (e : Int) (q : Option Addr) (n c : Nat) (ms : List Mb) : Stays (Bz b w r e q n c ms) := fun _ _ h hb =>
  ⟨h.1.trans (hb.mono h.2.2.2.2), h.2.1.below hb, (hb.cell (p := ⟨r, 0, none⟩) (World.block_lt_of_cell? _ _ h.2.2.1)).trans h.2.2.1, (hb.cell (p := ⟨r, 1, none⟩) (World.block_lt_of_cell? _ _ h.2.2.2.1)).trans h.2.2.2.1, Nat.le_trans h.2.2.2.2 hb.size⟩

theorem two0 {W : World} {x : Nat} {a u v : Value} (h : W.cell? ⟨x, 0, none⟩ = some a) : ((W.setCell ⟨x, 0, none⟩ u).setCell ⟨x, 1, none⟩ v).cell? ⟨x, 0, none⟩ = some u := by
  rw [World.cell?_setCell_other (h := by simp), World.cell?_setCell_same (h := h)]

theorem two1 {W : World} {x : Nat} {a u v : Value} (h : W.cell? ⟨x, 1, none⟩ = some a) : ((W.setCell ⟨x, 0, none⟩ u).setCell ⟨x, 1, none⟩ v).cell? ⟨x, 1, none⟩ = some v := by
  rw [World.cell?_setCell_same (h := by rw [World.cell?_setCell_other (h := by simp)]; exact h)]

theorem cell_below {W W' : World} {p : Addr} {v : Value} (hb : Below W.heap.size W W') (h : W.cell? p = some v) : W'.cell? p = some v := (hb.cell (World.block_lt_of_cell? _ _ h)).trans h

/-- .. and an empty box stands there. -/
def Bx (w : World) (x : Nat) (W : World) : Prop := Bl w W ∧ W.heap[x]? = some (.cells #[.int .i64 0, .slice none 0 0] 33)

theorem Bl.out {w W : World} (h : Bl w W) : Below w.heap.size w W := h

theorem Bx.stays (w : World) (x : Nat) : Stays (Bx w x) := fun W W' h hb => ⟨Bl.stays w W W' h.1 hb, (hb.block x (Array.getElem?_eq_some_iff.1 h.2).1).trans h.2⟩

end Go.Proofs.Ytdjeafaaclhpkaa.M
