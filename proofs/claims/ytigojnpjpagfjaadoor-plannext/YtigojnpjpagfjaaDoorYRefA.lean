/-
  Own text: contracts of the reference's Again and Ready.
-/
import Derived.Test.YtigojnpjpagfjaaDoorYRefCut
namespace Go.Proofs.YtigojnpjpagfjaaDoor.M
open Go.ChangeShapes Go.WideShapes Go.ChangeAt Go.RowKit

/-- A chain in the making, in box x: its epoch, and a slice of the call's own that holds members. -/
structure Ob (W : World) (x : Nat) (e : Int) (v : Value) (M : List Mb) : Prop where
  c0 : W.cell? ⟨x, 0, none⟩ = some (.int .i64 e)
  c1 : W.cell? ⟨x, 1, none⟩ = some v
  fz : W.frozen? ⟨x, 1, none⟩ = false
  ow : OwM W (x + 1) v M

theorem Ob.lt {W : World} {x : Nat} {e : Int} {v : Value} {M : List Mb} (h : Ob W x e v M) : x < W.heap.size := World.block_lt_of_cell? _ _ h.c0

theorem Ob.below {W W' : World} {x : Nat} {e : Int} {v : Value} {M : List Mb} (h : Ob W x e v M) (hb : Below W.heap.size W W') : Ob W' x e v M :=
  ⟨(hb.cell (p := ⟨x, 0, none⟩) h.lt).trans h.c0, (hb.cell (p := ⟨x, 1, none⟩) h.lt).trans h.c1, (hb.frozen (p := ⟨x, 1, none⟩) h.lt).trans h.fz, h.ow.below hb⟩

theorem OwM.set {W : World} {B x : Nat} {v u : Value} {M : List Mb} (h : OwM W B v M) (hx : x < B) (j : Nat) : OwM (W.setCell ⟨x, j, none⟩ u) B v M := by
  refine ⟨h.1, ?_⟩
  rcases h.2 with h2 | ⟨g, cap, cur, hv, hg, hh, r⟩
  · exact Or.inl h2
  · refine Or.inr ⟨g, cap, cur, hv, hg, ?_, r⟩
    rw [← hh]
    simp only [World.setCell, Array.getElem?_modify]
    rw [if_neg (by omega)]

theorem Ob.app {W w' : World} {x : Nat} {e : Int} {v v' : Value} {M M' : List Mb} (h : Ob W x e v M) (hb : Below (x + 1) W w') (ho : OwM w' (x + 1) v' M') : Ob (w'.setCell ⟨x, 1, none⟩ v') x e v' M' := by
  have k0 := (hb.cell (p := ⟨x, 0, none⟩) (Nat.lt_succ_self x)).trans h.c0
  have k1 := (hb.cell (p := ⟨x, 1, none⟩) (Nat.lt_succ_self x)).trans h.c1
  have kf := (hb.frozen (p := ⟨x, 1, none⟩) (Nat.lt_succ_self x)).trans h.fz
  exact ⟨by rw [World.cell?_setCell_other (h := by simp)]; exact k0, by rw [World.cell?_setCell_same (h := k1)], by rw [World.frozen?_setCell]; exact kf, ho.set (Nat.lt_succ_self x) 1⟩

theorem Ob.new (w : World) (e : Int) : Ob (w.alloc (.cells #[.int .i64 e, .slice none 0 0] 28)) w.heap.size e (.slice none 0 0) [] :=
  ⟨by simp, by simp, by simp, OwM.nil _ _⟩

end Go.Proofs.YtigojnpjpagfjaaDoor.M
