/-
  Own text: what the form tells of an argument that is a list of calls.
-/
import Derived.Test.YtmfmjoibofadlaaOBase
import Derived.Test.YtmfmjoibofadlaaOpen
import Derived.Deep.Slices
import Derived.WideKeyPair
namespace Go.Proofs.Ytmfmjoibofadlaa.M
open Go.ChangeShapes Go.WideShapes Go.ChangeAt Go.RowKit
set_option maxRecDepth 20000

theorem open_ops {H : Type} {enc : TypeId × Value → H} {W : World} {a : Option Addr} {len cap : Nat} {d : DataW H} {p : List MemPlace}
    (h : DataW.Trod enc Try.prog W 0 (fun _ => true) true 22 (.slice a len cap) d p) : ∃ L, RdO W a len cap L := by
  obtain ⟨fuel, hf⟩ := h
  have hce : Try.prog.cellsOf 29 = 5 := by kernel_rfl
  have i1 : Try.prog.cellsOf 3 = 1 := by kernel_rfl
  have b1 : Try.prog.cellsOf 4 = 1 := by kernel_rfl
  have s1 : Try.prog.cellsOf 9 = 1 := by kernel_rfl
  rcases Deep.open_slice Try.underlying22 hf with ⟨hcs, _⟩ | ⟨ad, l, c, m, n, D, Pl, hcs, _, hl, hm, hmm, hxe, hx⟩
  · simp [Value.cells] at hcs
    obtain ⟨rfl, rfl, rfl⟩ := hcs
    exact ⟨[], rfl, Nat.le_refl _, fun _ => rfl, fun h => absurd h (Nat.lt_irrefl _)⟩
  · simp [Value.cells] at hcs
    obtain ⟨rfl, rfl, rfl⟩ := hcs
    simp only [if_true] at hmm
    subst hmm
    have each : ∀ i, i < m → ∃ f : Lo, W.cell? (ad.add (i * 5)) = some (.bool f.w) ∧ W.cell? (ad.add (i * 5 + 1)) = some (.string f.s) ∧ W.cell? (ad.add (i * 5 + 2)) = some (.int .i64 f.v) ∧ W.cell? (ad.add (i * 5 + 3)) = some (.int .i64 f.b) ∧ W.cell? (ad.add (i * 5 + 4)) = some (.int .i64 f.e) := by
      intro i hi
      obtain ⟨cs', h1, h2⟩ := hx i hi
      rw [hce] at h1
      obtain ⟨_, hlen, hcell⟩ := World.cells?_some h1
      obtain ⟨xs, k, hk, hxy, _, hxl, hff⟩ := DataW.trod_struct Try.underlying29 h2
      have hxl5 : xs.length = 5 := hxl
      have g0 : DataW.trod enc Try.prog W 0 (fun _ => true) true k 4 (List.take (Try.prog.cellsOf 4) (List.drop 0 cs')) = xs[0]? := hff 0 _ rfl
      have g1 : DataW.trod enc Try.prog W 0 (fun _ => true) true k 9 (List.take (Try.prog.cellsOf 9) (List.drop 1 cs')) = xs[1]? := hff 1 _ rfl
      have g2 : DataW.trod enc Try.prog W 0 (fun _ => true) true k 3 (List.take (Try.prog.cellsOf 3) (List.drop 2 cs')) = xs[2]? := hff 2 _ rfl
      have g3 : DataW.trod enc Try.prog W 0 (fun _ => true) true k 3 (List.take (Try.prog.cellsOf 3) (List.drop 3 cs')) = xs[3]? := hff 3 _ rfl
      have g4 : DataW.trod enc Try.prog W 0 (fun _ => true) true k 3 (List.take (Try.prog.cellsOf 3) (List.drop 4 cs')) = xs[4]? := hff 4 _ rfl
      rw [i1] at g2 g3 g4
      rw [b1] at g0
      rw [s1] at g1
      match xs, hxl5, cs', hlen with
      | [y0, y1, y2, y3, y4], _, [v0, v1, v2, v3, v4], _ =>
        simp at g0 g1 g2 g3 g4
        obtain ⟨z0, e0, _⟩ := DataW.trod_bool Try.underlying4 g0
        obtain ⟨z1, e1, _, _⟩ := DataW.trod_string Try.underlying9 g1
        obtain ⟨z2, e2, _, _⟩ := DataW.trod_int Try.underlying3 g2
        obtain ⟨z3, e3, _, _⟩ := DataW.trod_int Try.underlying3 g3
        obtain ⟨z4, e4, _, _⟩ := DataW.trod_int Try.underlying3 g4
        simp at e0 e1 e2 e3 e4
        subst e0 e1 e2 e3 e4
        have q0 := hcell 0 (by omega)
        have q1 := hcell 1 (by omega)
        have q2 := hcell 2 (by omega)
        have q3 := hcell 3 (by omega)
        have q4 := hcell 4 (by omega)
        rw [Deep.add_add] at q0 q1 q2 q3 q4
        exact ⟨⟨z0, z1, z2, z3, z4⟩, by simpa using q0, by simpa using q1, by simpa using q2, by simpa using q3, by simpa using q4⟩
    obtain ⟨f, hfv⟩ := @Deep.choose_lt Lo ⟨.z0⟩ _ _ each
    refine ⟨(List.range len).map f, ⟨by simp, hl, (fun h => by cases h), fun hn => ?_⟩⟩
    obtain ⟨b, o, spot⟩ := ad
    have h0 := (hfv 0 (by omega)).1
    have hspot : spot = none := by simpa [Addr.add] using World.cell?_spot h0
    subst hspot
    refine ⟨b, o, rfl, fun i hi => ?_⟩
    obtain ⟨k0, k1, k2, k3, k4⟩ := hfv i (by omega)
    rw [Addr.add_lit] at k0 k1 k2 k3 k4
    have e : ((List.range len).map f).getD i .z0 = f i := by rw [List.getD_eq_getElem?_getD, List.getElem?_map, List.getElem?_range hi]; rfl
    rw [e]
    exact ⟨k0, by rw [Nat.add_assoc]; exact k1, by rw [Nat.add_assoc]; exact k2, by rw [Nat.add_assoc]; exact k3, by rw [Nat.add_assoc]; exact k4⟩

end Go.Proofs.Ytmfmjoibofadlaa.M
