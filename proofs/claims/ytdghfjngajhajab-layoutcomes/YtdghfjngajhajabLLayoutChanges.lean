/-
  Own text: the walk of the law LayoutChanges.
-/
import Derived.Test.YtdghfjngajhajabYDoes
namespace Go.Proofs.Ytdghfjngajhajab.M
open Go.ChangeShapes Go.WideShapes Go.ChangeAt Go.RowKit

/-- The parts of an answer. -/
def CRe : CR → Int
  | .error _ => 0
  | .ok (e, _) => e
def CRm : CR → List Mb
  | .error _ => []
  | .ok (_, ms) => ms
def CRk : CR → Int
  | .error k => k
  | .ok _ => 0

theorem Told.rd {B : Nat} {w : World} {v : Value} {R : CR} (h : Told B w v R) : ∃ q c, v = .tuple #[.agg #[.int .i64 (CRe R), .slice q (CRm R).length c], .int .i64 (CRk R)] ∧ RdM w q (CRm R).length c (CRm R) := by
  match R, h with
  | .error k, h => exact ⟨none, 0, h, rfl, Nat.le_refl _, fun _ => rfl, fun h => absurd h (Nat.lt_irrefl _)⟩
  | .ok (e, ms), ⟨q, c, h1, _, h2⟩ => exact ⟨q, c, h1, h2⟩

theorem cutR_len (pr : Mb → Bool) (e : Int) (ms : List Mb) : (CRm (cutR pr e ms)).length ≤ ms.length + 1 := by
  unfold cutR
  have h1 : (ms.filter (fun m => !pr m)).length ≤ ms.length := List.length_filter_le _ _
  repeat' split
  all_goals simp only [CRm, List.length_nil, List.length_drop]
  all_goals omega

theorem dR_len (op nd st : Int) (fr : Bool) (e : Int) (ms : List Mb) : (CRm (dR op nd st fr e ms)).length ≤ ms.length + 1 := by
  unfold dR
  split
  · exact cutR_len _ _ _
  split
  · exact cutR_len _ _ _
  split
  · unfold joinR
    repeat' split
    all_goals simp only [CRm, List.length_nil, insM_len]
    all_goals omega
  split
  · unfold againR
    repeat' split
    all_goals simp only [CRm, List.length_nil]
    all_goals omega
  · unfold readyR
    repeat' split
    all_goals simp only [CRm, List.length_nil, List.length_set]
    all_goals omega

theorem two0 {W : World} {x : Nat} {a u v : Value} (h : W.cell? ⟨x, 0, none⟩ = some a) : ((W.setCell ⟨x, 0, none⟩ u).setCell ⟨x, 1, none⟩ v).cell? ⟨x, 0, none⟩ = some u := by
  rw [World.cell?_setCell_other (h := by simp), World.cell?_setCell_same (h := h)]

theorem two1 {W : World} {x : Nat} {a u v : Value} (h : W.cell? ⟨x, 1, none⟩ = some a) : ((W.setCell ⟨x, 0, none⟩ u).setCell ⟨x, 1, none⟩ v).cell? ⟨x, 1, none⟩ = some v := by
  rw [World.cell?_setCell_same (h := by rw [World.cell?_setCell_other (h := by simp)]; exact h)]

/-- What lies in the law's boxes. -/
structure Kp (W : World) (b x : Nat) (e op nd st : Int) (fr : Bool) (p : Option Addr) (n c : Nat) (q : Option Addr) (d : Nat) (ms : List Mb) : Prop where
  a0 : W.cell? ⟨b, 0, none⟩ = some (.int .i64 e)
  a1 : W.cell? ⟨b, 1, none⟩ = some (.slice p n c)
  d0 : W.cell? ⟨b + 1, 0, none⟩ = some (.int .i64 op)
  d1 : W.cell? ⟨b + 1, 1, none⟩ = some (.int .i64 nd)
  d2 : W.cell? ⟨b + 1, 2, none⟩ = some (.int .i64 st)
  d3 : W.cell? ⟨b + 1, 3, none⟩ = some (.bool fr)
  z0 : W.cell? ⟨x, 0, none⟩ = some (.int .i64 e)
  z1 : W.cell? ⟨x, 1, none⟩ = some (.slice q n d)
  rp : RdM W p n c ms
  rq : RdM W q n d ms

theorem cell_below {W W' : World} {p : Addr} {v : Value} (hb : Below W.heap.size W W') (h : W.cell? p = some v) : W'.cell? p = some v := (hb.cell (World.block_lt_of_cell? _ _ h)).trans h

theorem Kp.below {W W' : World} {b x : Nat} {e op nd st : Int} {fr : Bool} {p : Option Addr} {n c : Nat} {q : Option Addr} {d : Nat} {ms : List Mb} (h : Kp W b x e op nd st fr p n c q d ms) (hb : Below W.heap.size W W') : Kp W' b x e op nd st fr p n c q d ms :=
  ⟨cell_below hb h.a0, cell_below hb h.a1, cell_below hb h.d0, cell_below hb h.d1, cell_below hb h.d2, cell_below hb h.d3, cell_below hb h.z0, cell_below hb h.z1, h.rp.below hb, h.rq.below hb⟩

/-- .. and an empty box stands there. -/
def Bx (w : World) (x : Nat) (W : World) : Prop := Bl w W ∧ W.heap[x]? = some (.cells #[.int .i64 0, .slice none 0 0] 26)

theorem Bl.out {w W : World} (h : Bl w W) : Below w.heap.size w W := h

theorem Bx.stays (w : World) (x : Nat) : Stays (Bx w x) := fun W W' h hb => ⟨Bl.stays w W W' h.1 hb, (hb.block x (Array.getElem?_eq_some_iff.1 h.2).1).trans h.2⟩

end Go.Proofs.Ytdghfjngajhajab.M
