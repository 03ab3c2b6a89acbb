/-
  Own text: sums as a table: cells by rising keys, and what clients got.
-/
import Derived.Test.YtnbgdkdnlfomeaaDoorBSrt
import Derived.Test.YtnbgdkdnlfomeaaDoorBMr
import Derived.Test.YtnbgdkdnlfomeaaDoorBDa
namespace Go.Proofs.YtnbgdkdnlfomeaaDoor.M
open Go.ChangeShapes Go.WideShapes Go.ChangeAt Go.RowKit Go.ChangeMaps Go.MapKept Go.Maps Go.Shelf Go.Proofs
set_option linter.unusedSimpArgs false

/-- What the first so many clients got, of those that got something. -/
def donL (m : Sm) (k : Nat) : List Dn := ((List.range k).map m.d).filter fun d => decide (0 < d.q)

theorem donL_yes {m : Sm} {k : Nat} (h : 0 < (m.d k).q) : donL m (k + 1) = donL m k ++ [m.d k] := by
  unfold donL
  rw [List.range_succ, List.map_append, List.filter_append]
  simp [h]

theorem donL_no {m : Sm} {k : Nat} (h : ¬ 0 < (m.d k).q) : donL m (k + 1) = donL m k := by
  unfold donL
  rw [List.range_succ, List.map_append, List.filter_append]
  simp [h]

theorem idx4 (m : Sm) (k : Nat) (hk : k < 4) (w : World) : (Instr.index 83 (.agg #[.int .i64 (m.d 0).c, .int .i64 (m.d 0).q, .int .i64 (m.d 0).v, .int .i64 (m.d 1).c, .int .i64 (m.d 1).q, .int .i64 (m.d 1).v, .int .i64 (m.d 2).c, .int .i64 (m.d 2).q, .int .i64 (m.d 2).v, .int .i64 (m.d 3).c, .int .i64 (m.d 3).q, .int .i64 (m.d 3).v]) (.int .i64 k)).run Tryd.prog w = .ok (.agg #[.int .i64 (m.d k).c, .int .i64 (m.d k).q, .int .i64 (m.d k).v]) w := by
  have hu := Tryd.underlying83
  have hi := Tryd.isAgg82
  have hz := Tryd.sizeOf82
  obtain rfl | rfl | rfl | rfl : k = 0 ∨ k = 1 ∨ k = 2 ∨ k = 3 := by omega
  all_goals simp [Instr.index, run_underlying hu, asIntOf, go_sem, part, hi, hz]

/-- A table in the making: the sums in block g1, room for the answer in g2, the table in g3, one who goes through the map in r; the cells V have come. -/
structure TS (w : World) (m : Sm) (b g1 g2 g3 r : Nat) (p : Option Addr) (n c : Nat) (V : List Ce) (W : World) : Prop where
  bel : Below w.heap.size w W
  s1 : SumAt W g1 m b
  s2 : At 25 W g2 #[.int .i64 0, .int .i64 0, .slice none 0 0, .slice none 0 0]
  s3 : At 25 W g3 #[.int .i64 m.ix, .int .i64 m.ep, .slice p n c, .slice none 0 0]
  it : MR W b r m.cs V
  ow : OwG celS 53 W w.heap.size p n c V
  mm : ∀ k, mine p c k → r < k
  ord : w.heap.size ≤ g1 ∧ g1 < g2 ∧ g2 < g3 ∧ g3 < r ∧ b < w.heap.size

theorem TS.next {w : World} {m : Sm} {b g1 g2 g3 r : Nat} {p : Option Addr} {n c : Nat} {V : List Ce} {W W2 : World} (h : TS w m b g1 g2 g3 r p n c V W) (x : Ce) (hm : MR W2 b r m.cs (V ++ [x]))
    (hs : W2.heap.size = W.heap.size) (ho : W2.os = W.os) (ht : W2.tape = W.tape) (hp : W2.output = W.output) (hx : ∀ i, i ≠ r → W2.heap[i]? = W.heap[i]?) (p' : Option Addr) (c' : Nat) (W4 W9 : World) (hb : Below W2.heap.size W2 W4)
    (hw : OwG celS 53 W9 w.heap.size p' (n + 1) c' (V ++ [x])) (hc : Ch (mine p c) W4 W9) (hnew : ∀ k, mine p' c' k → mine p c k ∨ W4.heap.size ≤ k) :
    TS w m b g1 g2 g3 r p' (n + 1) c' (V ++ [x]) (W9.setCell ⟨g3, 2, none⟩ (.slice p' (n + 1) c')) ∧ leftC (W9.setCell ⟨g3, 2, none⟩ (.slice p' (n + 1) c')) b r = leftC W2 b r := by
  obtain ⟨o1, o2, o3, o4, o5⟩ := h.ord
  have hlt := hm.lt
  have hrW := h.it.lt.2.1
  have hsz := hb.size
  have hsz9 := hc.size
  have hmm := h.mm
  have keep : ∀ i, i < W.heap.size → i ≠ r → i ≤ r → (W9.heap[i]? = W.heap[i]?) := fun i hi hir hle => by
    rw [hc.block i (by omega) (fun e => by have := hmm i e; omega), hb.block i (by omega), hx i hir]
  have keepr : W9.heap[r]? = W2.heap[r]? := by rw [hc.block r (by omega) (fun e => by have := hmm r e; omega), hb.block r (by omega)]
  have keepb : W9.heap[b]? = W2.heap[b]? := by rw [hc.block b (by omega) (fun e => by have := hmm b e; omega), hb.block b (by omega)]
  have hset : ∀ i, i ≠ g3 → (W9.setCell ⟨g3, 2, none⟩ (.slice p' (n + 1) c')).heap[i]? = W9.heap[i]? := fun i hi => heap_setC _ _ _ _ _ hi
  have hmine : ∀ k, mine p' c' k → r < k := fun k hk => (hnew k hk).elim (fun e => hmm k e) fun e => by omega
  have hk := hm.kept (w' := W9.setCell ⟨g3, 2, none⟩ (.slice p' (n + 1) c')) (by rw [hset b (by omega)]; exact keepb) (by rw [hset r (by omega)]; exact keepr)
  refine ⟨⟨?_, ?_, ?_, ?_, hk.1, ?_, hmine, h.ord⟩, hk.2⟩
  · have e1 : Below w.heap.size w W2 := ⟨ho.trans h.bel.os, ht.trans h.bel.tape, hp.trans h.bel.output, by rw [hs]; exact h.bel.size, fun k hk => (hx k (by omega)).trans (h.bel.block k hk)⟩
    have e2 := e1.trans (hb.mono e1.size)
    have e3 : Below w.heap.size W4 W9 := hc.below e2.size fun k hk => Nat.le_of_lt (by have := hmm k hk; omega)
    exact (e2.trans e3).setCell (p := ⟨g3, 2, none⟩) (by show w.heap.size ≤ g3; omega) _
  · exact At.same h.s1 (by rw [hset g1 (by omega)]; exact keep g1 (At.lt h.s1) (by omega) (by omega))
  · exact At.same h.s2 (by rw [hset g2 (by omega)]; exact keep g2 (At.lt h.s2) (by omega) (by omega))
  · have := At.same (w' := W9) h.s3 (keep g3 (At.lt h.s3) (by omega) (by omega))
    exact (At.setC this 2 _ :)
  · exact hw.ch (Ch.setCell W9 ⟨g3, 2, none⟩ _) fun k hk e => by have := hmine k hk; have e' : k = g3 := e; omega

/-- The dones in the making. -/
structure TD (w : World) (m : Sm) (g2 g3 : Nat) (p : Option Addr) (n c : Nat) (V : List Ce) (q : Option Addr) (k d : Nat) (D : List Dn) (W : World) : Prop where
  bel : Below w.heap.size w W
  s2 : At 25 W g2 #[.int .i64 0, .int .i64 0, .slice none 0 0, .slice none 0 0]
  s3 : At 25 W g3 #[.int .i64 m.ix, .int .i64 m.ep, .slice p n c, .slice q k d]
  rd : RdG celS W p n c V
  pn : 0 < n → ∀ a, p = some a → g3 < a.block
  ow : OwG donS 82 W w.heap.size q k d D
  mm : ∀ j, mine q d j → g3 < j ∧ (0 < n → ∀ a, p = some a → a.block ≠ j)
  ord : w.heap.size ≤ g2 ∧ g2 < g3

theorem TD.below {w : World} {m : Sm} {g2 g3 : Nat} {p : Option Addr} {n c : Nat} {V : List Ce} {q : Option Addr} {k d : Nat} {D : List Dn} {W W' : World} (h : TD w m g2 g3 p n c V q k d D W) (hb : Below W.heap.size W W') : TD w m g2 g3 p n c V q k d D W' :=
  ⟨h.bel.trans (hb.mono h.bel.size), h.s2.below hb, h.s3.below hb, h.rd.below hb, h.pn, h.ow.below hb, h.mm, h.ord⟩

theorem TD.next {w : World} {m : Sm} {g2 g3 : Nat} {p : Option Addr} {n c : Nat} {V : List Ce} {q : Option Addr} {k d : Nat} {D : List Dn} {W : World} (h : TD w m g2 g3 p n c V q k d D W) (x : Dn) (q' : Option Addr) (d' : Nat) (W9 : World)
    (hw : OwG donS 82 W9 w.heap.size q' (k + 1) d' (D ++ [x])) (hc : Ch (mine q d) W W9) (hnew : ∀ j, mine q' d' j → mine q d j ∨ W.heap.size ≤ j) :
    TD w m g2 g3 p n c V q' (k + 1) d' (D ++ [x]) (W9.setCell ⟨g3, 3, none⟩ (.slice q' (k + 1) d')) := by
  obtain ⟨o1, o2⟩ := h.ord
  have hmm := h.mm
  have hg3 := At.lt h.s3
  have hset : ∀ i, i ≠ g3 → (W9.setCell ⟨g3, 3, none⟩ (.slice q' (k + 1) d')).heap[i]? = W9.heap[i]? := fun i hi => heap_setC _ _ _ _ _ hi
  have hmine : ∀ j, mine q' d' j → g3 < j ∧ (0 < n → ∀ a, p = some a → a.block ≠ j) := fun j hj => (hnew j hj).elim (fun e => hmm j e) fun e => ⟨by omega, fun h0 a ha => by have := RdG.lt h.rd h0 ha; omega⟩
  refine ⟨?_, ?_, ?_, ?_, h.pn, ?_, hmine, h.ord⟩
  · have e3 : Below w.heap.size W W9 := hc.below h.bel.size fun j hj => Nat.le_of_lt (by have := (hmm j hj).1; omega)
    exact (h.bel.trans e3).setCell (p := ⟨g3, 3, none⟩) (by show w.heap.size ≤ g3; omega) _
  · exact At.same h.s2 (by rw [hset g2 (by omega)]; exact hc.block g2 (At.lt h.s2) fun e => by have := (hmm g2 e).1; omega)
  · have := At.same (w' := W9) h.s3 (hc.block g3 hg3 fun e => by have := (hmm g3 e).1; omega)
    exact (At.setC this 3 _ :)
  · refine (h.rd.ch hc fun h0 a ha e => (hmm a.block e).2 h0 a ha rfl).ch (Ch.setCell W9 ⟨g3, 3, none⟩ _) fun h0 a ha e => ?_
    have := h.pn h0 a ha
    have e' : a.block = g3 := e
    omega
  · exact hw.ch (Ch.setCell W9 ⟨g3, 3, none⟩ _) fun j hj e => by have := (hmine j hj).1; have e' : j = g3 := e; omega

theorem infoCel : (Tryd.prog.info? 53).map (fun i => (i.zero, i.size, i.bytes)) = some (some (.agg #[.int .u8 0, .int .u8 0, .int .u8 0, .int .u8 0, .int .u8 0, .int .u8 0, .int .u8 0, .int .u8 0, .int .i64 0, .string ⟨#[]⟩]), 10, 32) := by kernel_rfl
theorem infoDon : (Tryd.prog.info? 82).map (fun i => (i.zero, i.size, i.bytes)) = some (some (.agg #[.int .i64 0, .int .i64 0, .int .i64 0]), 3, 24) := by kernel_rfl

end Go.Proofs.YtnbgdkdnlfomeaaDoor.M
