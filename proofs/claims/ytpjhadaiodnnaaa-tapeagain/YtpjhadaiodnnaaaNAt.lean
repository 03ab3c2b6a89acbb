/-
  Own text: blocks of cells, as they lie; frames but for one block.
-/
import Derived.WalkKit
import Derived.Laws.Tables
import Derived.Deep.QuietTactic
import Derived.WalkSmall
import Derived.Test.YtpjhadaiodnnaaaMem
namespace Go.Proofs.Ytpjhadaiodnnaaa.M
open Go.ChangeShapes Go.WideShapes Go.ChangeAt Go.RowKit

theorem below_alloc (w : World) (o : Obj) : Below w.heap.size w (w.alloc o) := (Below.refl _ _).alloc (Nat.le_refl _) o

theorem results_row_tmp {P : Program} {fn : Func} {p u : Tmp} {ty : TypeId} (h : fn.results = #[.cell p ty, .tmp u]) (tmps : Array Value) (w : World) (g : Nat) (t : TypeId) (cs : Array Value) (d : TypeDesc)
    (hp : tmps.getD p undef = .pointer (some ⟨g, 0, none⟩)) (hg : w.heap[g]? = some (.cells cs t (0, 0)))
    (hu : P.underlying ty = some d) (hd : (match d with | .struct _ | .array _ _ => true | _ => false) = true) (hi : (P.info? ty).map (·.size) = some cs.size) :
    (results fn tmps).run P w = .ok (.tuple #[.agg cs, tmps.getD u undef]) w := by
  have hp' : tmps[p]?.getD undef = .pointer (some ⟨g, 0, none⟩) := by simpa using hp
  simp [results, h, hp', asAddr, run_loadVar_row w g t ty cs (0, 0) d hg hu hd hi]

/-- A block that holds such cells. -/
def At (t : TypeId) (w : World) (g : Nat) (cs : Array Value) : Prop := w.heap[g]? = some (.cells cs t (0, 0))

theorem At.new (t : TypeId) (w : World) (cs : Array Value) : At t (w.alloc (.cells cs t)) w.heap.size cs := heap_alloc_new _ _

theorem At.lt {t : TypeId} {w : World} {g : Nat} {cs : Array Value} (h : At t w g cs) : g < w.heap.size := (Array.getElem?_eq_some_iff.1 h).1

theorem At.below {t : TypeId} {w w' : World} {g : Nat} {cs : Array Value} (h : At t w g cs) (hb : Below w.heap.size w w') : At t w' g cs := by
  unfold At
  rw [hb.block g h.lt]
  exact h

theorem At.alloc {t : TypeId} {w : World} {g : Nat} {cs : Array Value} (h : At t w g cs) (o : Obj) : At t (w.alloc o) g cs := h.below (below_alloc w o)

theorem At.cell {t : TypeId} {w : World} {g : Nat} {cs : Array Value} (h : At t w g cs) (i : Nat) : w.cell? ⟨g, i, none⟩ = cs[i]? := cell_of_row w g i _ _ _ h

theorem At.free {t : TypeId} {w : World} {g : Nat} {cs : Array Value} (h : At t w g cs) (i : Nat) : w.frozen? ⟨g, i, none⟩ = false := frozen_of_row w g i _ _ h

theorem At.moved {t : TypeId} {w : World} {g g2 : Nat} {cs : Array Value} (e : g = g2) (h : At t w g cs) : At t w g2 cs := e ▸ h

theorem At.three {t : TypeId} {w : World} {g : Nat} {x y z : Value} (h : At t w g #[x, y, z]) : w.cell? ⟨g, 0, none⟩ = some x ∧ w.cell? ⟨g, 1, none⟩ = some y ∧ w.cell? ⟨g, 2, none⟩ = some z := ⟨h.cell 0, h.cell 1, h.cell 2⟩

theorem At.two {t : TypeId} {w : World} {g : Nat} {x y : Value} (h : At t w g #[x, y]) : w.cell? ⟨g, 0, none⟩ = some x ∧ w.cell? ⟨g, 1, none⟩ = some y := ⟨h.cell 0, h.cell 1⟩

theorem At.four {t : TypeId} {w : World} {g : Nat} {x y z u : Value} (h : At t w g #[x, y, z, u]) : w.cell? ⟨g, 0, none⟩ = some x ∧ w.cell? ⟨g, 1, none⟩ = some y ∧ w.cell? ⟨g, 2, none⟩ = some z ∧ w.cell? ⟨g, 3, none⟩ = some u := ⟨h.cell 0, h.cell 1, h.cell 2, h.cell 3⟩

theorem At.one {t : TypeId} {w : World} {g : Nat} {x : Value} (h : At t w g #[x]) : w.cell? ⟨g, 0, none⟩ = some x := h.cell 0

/-- All that lay in w, but for block g, lies as it did. -/
structure Ex (g : Nat) (w w' : World) : Prop where
  os : w'.os = w.os
  tape : w'.tape = w.tape
  output : w'.output = w.output
  size : w.heap.size ≤ w'.heap.size
  block : ∀ k, k < w.heap.size → k ≠ g → w'.heap[k]? = w.heap[k]?

theorem Ex.refl (g : Nat) (w : World) : Ex g w w := ⟨rfl, rfl, rfl, Nat.le_refl _, fun _ _ _ => rfl⟩

theorem Ex.trans {g : Nat} {a b c : World} (h : Ex g a b) (k : Ex g b c) : Ex g a c :=
  ⟨k.os.trans h.os, k.tape.trans h.tape, k.output.trans h.output, Nat.le_trans h.size k.size, fun i hi hg => (k.block i (Nat.lt_of_lt_of_le hi h.size) hg).trans (h.block i hi hg)⟩

theorem Ex.of_below {g : Nat} {w w' : World} (h : Below w.heap.size w w') : Ex g w w' := ⟨h.os, h.tape, h.output, h.size, fun k hk _ => h.block k hk⟩

theorem Ex.drew {g : Nat} {w w' : World} (h : Ex g w w') : Ex g w w'.drew := ⟨h.os, h.tape, h.output, h.size, h.block⟩

theorem Ex.drewN {g : Nat} {w w' : World} (h : Ex g w w') (n : Nat) : Ex g w (w'.drewN n) := ⟨h.os, h.tape, h.output, h.size, h.block⟩

theorem Ex.setCell {g : Nat} {w w' : World} (h : Ex g w w') (j : Nat) (v : Value) : Ex g w (w'.setCell ⟨g, j, none⟩ v) := by
  refine ⟨h.os, h.tape, h.output, by simpa using h.size, fun k hk hg => ?_⟩
  rw [← h.block k hk hg]
  simp only [World.setCell, Array.getElem?_modify]
  rw [if_neg (fun e => hg e.symm)]

theorem Ex.below {g B : Nat} {w w' : World} (h : Ex g w w') (hB : B ≤ g) (hg : g < w.heap.size) : Below B w w' :=
  ⟨h.os, h.tape, h.output, h.size, fun k hk => h.block k (by omega) (by omega)⟩

theorem Ex.setC {g : Nat} {w : World} : ∀ (vs : List Value) (o : Nat) (w' : World), Ex g w w' → Ex g w (w'.setCells g o vs)
  | [], _, _, h => h
  | v :: r, o, w', h => by rw [World.setCells]; exact Ex.setC r _ _ (h.setCell o v)

theorem At.ex {t : TypeId} {w w' : World} {g x : Nat} {cs : Array Value} (h : At t w g cs) (he : Ex x w w') (hne : g ≠ x) : At t w' g cs := by
  unfold At
  rw [he.block g h.lt hne]
  exact h

theorem cell_below {W W' : World} {p : Addr} {v : Value} (hb : Below W.heap.size W W') (h : W.cell? p = some v) : W'.cell? p = some v := (hb.cell (World.block_lt_of_cell? _ _ h)).trans h

theorem ownsRow_below {w w' : World} {B : Nat} {e : TypeId} {sz : Nat} {v : Value} {n : Nat} {xs : List Value} (h : w.ownsRow B e sz v n xs) (hb : Below w.heap.size w w') : w'.ownsRow B e sz v n xs := by
  refine ⟨h.1, ?_⟩
  rcases h.2 with h2 | ⟨g', cap, cur, hv, hg, hh, r⟩
  · exact Or.inl h2
  · exact Or.inr ⟨g', cap, cur, hv, hg, by rw [hb.block g' (Array.getElem?_eq_some_iff.1 hh).1]; exact hh, r⟩

theorem ownsRow_ex {w w' : World} {B x : Nat} {e : TypeId} {sz : Nat} {v : Value} {n : Nat} {xs : List Value} (h : w.ownsRow B e sz v n xs) (he : Ex x w w') (hv : v.ownBlock ≠ some x) : w'.ownsRow B e sz v n xs := by
  refine ⟨h.1, ?_⟩
  rcases h.2 with h2 | ⟨g', cap, cur, hv', hg, hh, r⟩
  · exact Or.inl h2
  · refine Or.inr ⟨g', cap, cur, hv', hg, ?_, r⟩
    rw [he.block g' (Array.getElem?_eq_some_iff.1 hh).1 (fun e1 => hv (by rw [hv', e1]; rfl))]
    exact hh

end Go.Proofs.Ytpjhadaiodnnaaa.M
