/-
  Own text: what the form tells of an argument that is a call of the statements over disks.
-/
import Derived.Test.YtohmjpjjmhcjgaaOpen
import Derived.Test.YtohmjpjjmhcjgaaRows
import Derived.Deep.Slices
namespace Go.Proofs.Ytohmjpjjmhcjgaa.M
open Go.ChangeShapes Go.WideShapes Go.ChangeAt Go.RowKit

theorem sl_cell {H : Type} {enc : TypeId × Value → H} {P : Program} {t e : TypeId} {W : World} {fuel : Nat} {v : Value} {x : DataW H × List MemPlace} (ht : P.underlying t = some (.slice e)) (h : DataW.trod enc P W 0 (fun _ => true) true fuel t [v] = some x) : ∃ a l c, v = .slice a l c := by
  rcases Deep.open_slice ht h with ⟨hcs, _⟩ | ⟨a, l, c, m, n, D, Pl, hcs, _⟩
  · injection hcs with hcs
    exact ⟨_, _, _, hcs⟩
  · injection hcs with hcs
    exact ⟨_, _, _, hcs⟩

theorem open_do {H : Type} {enc : TypeId × Value → H} {W : World} {v : Value} {d : DataW H} {p : List MemPlace}
    (h : DataW.Trod enc Try.prog W 0 (fun _ => true) true 25 v d p) : ∃ op i n bq bl bc kq kl kc, v = .agg #[.int .i64 op, .int .i64 i, .int .i64 n, .slice bq bl bc, .slice kq kl kc] := by
  obtain ⟨fuel, hf⟩ := h
  obtain ⟨xs, k, _, _, hlen, hxl, hff⟩ := DataW.trod_struct Try.underlying25 hf
  have h5 : Try.prog.cellsOf 25 = 5 := by kernel_rfl
  have i1 : Try.prog.cellsOf 3 = 1 := by kernel_rfl
  have b1 : Try.prog.cellsOf 22 = 1 := by kernel_rfl
  have k1 : Try.prog.cellsOf 23 = 1 := by kernel_rfl
  rw [h5] at hlen
  have g0 : DataW.trod enc Try.prog W 0 (fun _ => true) true k 3 (List.take (Try.prog.cellsOf 3) (List.drop 0 v.cells.toList)) = xs[0]? := hff 0 _ rfl
  have g1 : DataW.trod enc Try.prog W 0 (fun _ => true) true k 3 (List.take (Try.prog.cellsOf 3) (List.drop 1 v.cells.toList)) = xs[1]? := hff 1 _ rfl
  have g2 : DataW.trod enc Try.prog W 0 (fun _ => true) true k 3 (List.take (Try.prog.cellsOf 3) (List.drop 2 v.cells.toList)) = xs[2]? := hff 2 _ rfl
  have g3 : DataW.trod enc Try.prog W 0 (fun _ => true) true k 22 (List.take (Try.prog.cellsOf 22) (List.drop 3 v.cells.toList)) = xs[3]? := hff 3 _ rfl
  have g4 : DataW.trod enc Try.prog W 0 (fun _ => true) true k 23 (List.take (Try.prog.cellsOf 23) (List.drop 4 v.cells.toList)) = xs[4]? := hff 4 _ rfl
  rw [i1] at g0 g1 g2
  rw [b1] at g3
  rw [k1] at g4
  clear hff hf
  cases v with
  | agg cs =>
    obtain ⟨cs⟩ := cs
    have hxl5 : xs.length = 5 := hxl
    match cs, hlen, xs, hxl5 with
    | [v0, v1, v2, v3, v4], _, [y0, y1, y2, y3, y4], _ =>
      simp [Value.cells] at g0 g1 g2 g3 g4
      obtain ⟨z0, e0, _⟩ := DataW.trod_int Try.underlying3 g0
      obtain ⟨z1, e1, _⟩ := DataW.trod_int Try.underlying3 g1
      obtain ⟨z2, e2, _⟩ := DataW.trod_int Try.underlying3 g2
      obtain ⟨a3, l3, c3, e3⟩ := sl_cell Try.underlying22 g3
      obtain ⟨a4, l4, c4, e4⟩ := sl_cell Try.underlying23 g4
      simp at e0 e1 e2
      subst e0 e1 e2 e3 e4
      exact ⟨_, _, _, _, _, _, _, _, _, rfl⟩
  | _ => simp [Value.cells] at hlen

end Go.Proofs.Ytohmjpjjmhcjgaa.M
