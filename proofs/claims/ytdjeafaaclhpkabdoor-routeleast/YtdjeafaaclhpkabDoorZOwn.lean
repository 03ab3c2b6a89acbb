/-
  Own text: members appended one by one to a slice of the call's own.
-/
import Derived.Test.YtdjeafaaclhpkabDoorYFirst
namespace Go.Proofs.YtdjeafaaclhpkabDoor.M
open Go.ChangeShapes Go.WideShapes Go.ChangeAt Go.RowKit

/-- A slice of the call's own (from block B on) that holds these members. -/
def OwM (w : World) (B : Nat) (v : Value) (M : List Mb) : Prop := w.ownsRow B 39 3 v M.length (cellsM M M.length)

theorem OwM.nil (w : World) (B : Nat) : OwM w B (.slice none 0 0) [] := ⟨by simp [cellsM], Or.inl ⟨rfl, rfl⟩⟩

theorem OwM.below {w w' : World} {B : Nat} {v : Value} {M : List Mb} (h : OwM w B v M) (hb : Below w.heap.size w w') : OwM w' B v M := owns_below h hb

theorem OwM.rd {w : World} {B : Nat} {v : Value} {M : List Mb} (h : OwM w B v M) : ∃ q c, v = .slice q M.length c ∧ (∀ a, q = some a → B ≤ a.block) ∧ RdM w q M.length c M := by
  cases M with
  | nil =>
    rcases h.2 with ⟨rfl, _⟩ | ⟨g, cap, cur, rfl, hg, _⟩
    · exact ⟨none, 0, rfl, (fun _ e => by cases e), rfl, Nat.le_refl _, fun _ => rfl, fun h => absurd h (Nat.lt_irrefl _)⟩
    · exact ⟨_, _, rfl, (fun _ e => by cases e; exact hg), rfl, Nat.zero_le _, (fun e => by cases e), fun h => absurd h (Nat.lt_irrefl _)⟩
  | cons m l =>
    obtain ⟨g, cap, rfl, hg, hr⟩ := Row.of_owns h rfl (by simp)
    exact ⟨_, _, rfl, fun _ e => by cases e; exact hg, hr.rd⟩

theorem cellsM_snoc (M : List Mb) (m : Mb) : cellsM (M ++ [m]) (M ++ [m]).length = cellsM M M.length ++ m.cs := by
  have := cellsM_app M m M.length rfl
  unfold insM at this
  rw [List.take_of_length_le (Nat.le_refl _), List.drop_of_length_le (Nat.le_refl _)] at this
  rw [List.length_append]
  exact this

theorem wpList_appOwM {P : Program} (w : World) {ops : Array Oper} {rest : List Oper} {o : Oper} {a : Act} {Q : Exit → Act → World → Prop} (hgd : o.guard = none) (s x : Operand) (t : TypeId)
    (hop : o.op = .call { callee := .builtin .append, args := #[s, x], argTypes := #[t, t] })
    (i : TypeInfo) (z : Value) (ht : P.underlying t = some (.slice 39)) (hi : P.info? 39 = some i) (hz : i.zero = some z) (hsize : i.size = 3) (hby : i.bytes = 24) (hzs : z.cells.size = 3)
    (B : Nat) (v : Value) (M : List Mb) (hs : a.eval s = v) (ho : OwM w B v M) (g d : Nat) (m : Mb) (hx : a.eval x = .slice (some ⟨g, 0, none⟩) 1 d)
    (c0 : w.cell? ⟨g, 0, none⟩ = some (.int .i64 m.n)) (c1 : w.cell? ⟨g, 1, none⟩ = some (.int .i64 m.s)) (c2 : w.cell? ⟨g, 2, none⟩ = some (.bool m.f)) (hM : M.length ≤ 1099511627776) (hB : B ≤ w.heap.size)
    (h : ∀ v' w', OwM w' B v' (M ++ [m]) → Below B w w' → wpList P ops Q rest (a.put o.dst v') w') : wpList P ops Q (o :: rest) a w := by
  refine wpList_append_own w hgd s x t hop B 39 i z 3 24 ht hi hz hsize hby hzs (by decide) v M.length (cellsM M M.length) hs ho ⟨g, 0, none⟩ 1 d m.cs hx rfl ?_ (cs_one m) (by unfold maxLen; omega) (by omega) hB ?_
  · intro j u hj
    rw [Addr.add_lit, Nat.zero_add]
    match j, hj with
    | 0, hj => cases hj; exact c0
    | 1, hj => cases hj; exact c1
    | 2, hj => cases hj; exact c2
  · intro v' w' h1 h2 _
    refine h v' w' ?_ ?_
    · unfold OwM
      rw [cellsM_snoc, List.length_append]
      exact h1
    · refine (Below.refl B w).grown h2 hB fun r hr => ?_
      rcases ho.2 with ⟨rfl, _⟩ | ⟨g', cap, cur, rfl, hg, _⟩
      · cases hr
      · cases hr; exact hg

end Go.Proofs.YtdjeafaaclhpkabDoor.M
