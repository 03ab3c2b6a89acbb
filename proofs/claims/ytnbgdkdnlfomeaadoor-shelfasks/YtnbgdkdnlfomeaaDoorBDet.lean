/-
  Own text: small laws for regions that draw their order.
-/
import Derived.Test.YtnbgdkdnlfomeaaDoorBAsk
import Derived.Test.YtnbgdkdnlfomeaaDoorDet2
import Derived.Deep.MidRow
namespace Go.Proofs.YtnbgdkdnlfomeaaDoor.M
open Go.ChangeShapes Go.WideShapes Go.ChangeAt Go.RowKit Go.ChangeMaps Go.MapKept Go.Maps
set_option linter.unusedSimpArgs false

/-- All that stood is as it was. -/
def Bl (w W : World) : Prop := Below w.heap.size w W

theorem Bl.stays (w : World) : Stays (Bl w) := fun _ _ h hb => h.trans (hb.mono h.size)

theorem Bl.out {w W : World} (h : Bl w W) : Below w.heap.size w W := h

theorem wp_value {P : Program} {op : Oper} {a : Act} {w : World} {K : Act → World → Prop} {Q : Exit → Act → World → Prop} (v : Value) (w' : World) (he : (execOp a.eval op).run P w = .ok (.value v) w') (h : K (a.put op.dst v) w') : op.wp P a w K Q := by
  unfold Oper.wp
  rw [he]
  exact h

theorem wp_enterX {P : Program} {op : Oper} {a : Act} {w : World} {K : Act → World → Prop} {Q : Exit → Act → World → Prop} (f : FuncId) (args : Array Value) (he : (execOp a.eval op).run P w = .ok (.enter f args) w) (R : Value → World → Prop) (hc : Calls P f args w fun e w' => ∃ v, e = .returned v ∧ R v w') (h : ∀ v w', R v w' → K (a.put op.dst v) w') : op.wp P a w K Q := by
  unfold Oper.wp
  rw [he]
  refine Calls.mono hc ?_
  rintro e w' ⟨v, rfl, hR⟩
  exact h v w' hR

theorem wp_app {P : Program} {op : Oper} {a : Act} {w : World} {K : Act → World → Prop} {Q : Exit → Act → World → Prop} (s x : Operand) (t : TypeId) (hop : op.op = .call { callee := .builtin .append, args := #[s, x], argTypes := #[t, t] }) (u v : Value) (hs : a.eval s = u) (hx : a.eval x = v) (y : Value) (w' : World)
    (hr : (Builtin.append_ #[t, t] op.type #[u, v]).run P w = .ok y w') (h : K (a.put op.dst y) w') : op.wp P a w K Q := by
  unfold Oper.wp
  simp [execOp, hop, resolve, invoke, builtin, hs, hx, hr, Result.andThen]
  exact h

theorem field_sum (m : Sm) (b : Nat) (w : World) : (Instr.field 85 (.agg #[.int .i64 m.ix, .int .i64 m.ep, .map (some b), .int .i64 (m.d 0).c, .int .i64 (m.d 0).q, .int .i64 (m.d 0).v, .int .i64 (m.d 1).c, .int .i64 (m.d 1).q, .int .i64 (m.d 1).v, .int .i64 (m.d 2).c, .int .i64 (m.d 2).q, .int .i64 (m.d 2).v, .int .i64 (m.d 3).c, .int .i64 (m.d 3).q, .int .i64 (m.d 3).v]) 2).run Tryd.prog w = .ok (.map (some b)) w := by
  have hu := Tryd.underlying85
  simp [Instr.field, run_underlying hu, asAgg, go_sem]

/-- Behind 'with': its map lies in block b. -/
def MW (w : World) (b : Nat) (cs : List Ce) (W : World) : Prop := Bl w W ∧ MC W b cs ∧ w.heap.size ≤ b

theorem MW.stays (w : World) (b : Nat) (cs : List Ce) : Stays (MW w b cs) := fun W W' h hb => ⟨Bl.stays w W W' h.1 hb, h.2.1.below hb, h.2.2⟩

/-- All that stood ahead of B is as it was, and a cell lies in block g. -/
def CB (w : World) (B g : Nat) (c : Ce) (W : World) : Prop := Below B w W ∧ At 53 W g #[.int .u8 (bt c.k 0), .int .u8 (bt c.k 1), .int .u8 (bt c.k 2), .int .u8 (bt c.k 3), .int .u8 (bt c.k 4), .int .u8 (bt c.k 5), .int .u8 (bt c.k 6), .int .u8 (bt c.k 7), .int .i64 c.v, .string c.s] ∧ B ≤ W.heap.size

theorem CB.stays (w : World) (B g : Nat) (c : Ce) : Stays (CB w B g c) := fun _ _ h hb => ⟨h.1.trans (hb.mono h.2.2), At.below h.2.1 hb, Nat.le_trans h.2.2 hb.size⟩

theorem infoCe : (Tryd.prog.info? 53).map (·.size) = some 10 := by kernel_rfl
theorem oneCe {c : Ce} : (#[.int .u8 (bt c.k 0), .int .u8 (bt c.k 1), .int .u8 (bt c.k 2), .int .u8 (bt c.k 3), .int .u8 (bt c.k 4), .int .u8 (bt c.k 5), .int .u8 (bt c.k 6), .int .u8 (bt c.k 7), .int .i64 c.v, .string c.s] : Array Value).all (·.oneCell') = true := by simp [Value.oneCell']

theorem At.row {t : TypeId} {w : World} {g : Nat} {cs : Array Value} (h : At t w g cs) (cs' : Array Value) : At t (w.setRow g cs') g cs' := by
  unfold At at *
  unfold World.setRow
  rw [Array.getElem?_modify, if_pos rfl, h]
  rfl

end Go.Proofs.YtnbgdkdnlfomeaaDoor.M
