/-
  Own text: what the form tells of an argument that is a slice of changes.
-/
import Derived.Test.YtnhdfojbffaifaaOpenLdo
import Derived.Test.YtnhdfojbffaifaaYComP
namespace Go.Proofs.Ytnhdfojbffaifaa.M
open Go.ChangeShapes Go.WideShapes Go.ChangeAt Go.RowKit

theorem open_ldos {H : Type} {enc : TypeId × Value → H} {W : World} {a : Option Addr} {len cap : Nat} {d : DataW H} {pl : List MemPlace}
    (h : DataW.Trod enc Try.prog W 0 (fun _ => true) true 46 (.slice a len cap) d pl) : ∃ ds, RdD W a len cap ds := by
  obtain ⟨fuel, hf⟩ := h
  have hce : Try.prog.cellsOf 39 = 4 := by kernel_rfl
  have i1 : Try.prog.cellsOf 3 = 1 := by kernel_rfl
  have b1 : Try.prog.cellsOf 4 = 1 := by kernel_rfl
  rcases Deep.open_slice Try.underlying46 hf with ⟨hcs, _⟩ | ⟨ad, l, c, m, n, D, Pl, hcs, _, hl, hm, hmm, hxe, hx⟩
  · injection hcs with hcs
    injection hcs with e1 e2 e3
    subst e1 e2 e3
    exact ⟨[], ⟨rfl, Nat.le_refl _, fun h => absurd h (Nat.lt_irrefl _)⟩⟩
  · injection hcs with hcs
    injection hcs with e1 e2 e3
    subst e1 e2 e3
    simp only [if_true] at hmm
    subst hmm
    have each : ∀ i, i < m → ∃ f : Dm, W.cell? (ad.add (i * 4)) = some (.int .i64 f.o) ∧ W.cell? (ad.add (i * 4 + 1)) = some (.int .i64 f.n) ∧ W.cell? (ad.add (i * 4 + 2)) = some (.int .i64 f.s) ∧ W.cell? (ad.add (i * 4 + 3)) = some (.bool f.f) := by
      intro i hi
      obtain ⟨cs', h1, h2⟩ := hx i hi
      rw [hce] at h1
      obtain ⟨_, hlen, hcell⟩ := World.cells?_some h1
      obtain ⟨xs, k, hk, hxy, _, hxl, hff⟩ := DataW.trod_struct Try.underlying39 h2
      have hxl4 : xs.length = 4 := hxl
      have g0 : DataW.trod enc Try.prog W 0 (fun _ => true) true k 3 (List.take (Try.prog.cellsOf 3) (List.drop 0 cs')) = xs[0]? := hff 0 _ rfl
      have g1 : DataW.trod enc Try.prog W 0 (fun _ => true) true k 3 (List.take (Try.prog.cellsOf 3) (List.drop 1 cs')) = xs[1]? := hff 1 _ rfl
      have g2 : DataW.trod enc Try.prog W 0 (fun _ => true) true k 3 (List.take (Try.prog.cellsOf 3) (List.drop 2 cs')) = xs[2]? := hff 2 _ rfl
      have g3 : DataW.trod enc Try.prog W 0 (fun _ => true) true k 4 (List.take (Try.prog.cellsOf 4) (List.drop 3 cs')) = xs[3]? := hff 3 _ rfl
      rw [i1] at g0 g1 g2
      rw [b1] at g3
      match xs, hxl4, cs', hlen with
      | [y0, y1, y2, y3], _, [v0, v1, v2, v3], _ =>
        simp at g0 g1 g2 g3
        obtain ⟨z0, e0, _⟩ := DataW.trod_int Try.underlying3 g0
        obtain ⟨z1, e1, _⟩ := DataW.trod_int Try.underlying3 g1
        obtain ⟨z2, e2, _⟩ := DataW.trod_int Try.underlying3 g2
        obtain ⟨z3, e3, _⟩ := DataW.trod_bool Try.underlying4 g3
        simp at e0 e1 e2 e3
        subst e0 e1 e2 e3
        have q0 := hcell 0 (by omega)
        have q1 := hcell 1 (by omega)
        have q2 := hcell 2 (by omega)
        have q3 := hcell 3 (by omega)
        rw [Deep.add_add] at q0 q1 q2 q3
        exact ⟨⟨z0, z1, z2, z3⟩, by simpa using q0, by simpa using q1, by simpa using q2, by simpa using q3⟩
    obtain ⟨f, hfv⟩ := @Deep.choose_lt Dm ⟨.z0⟩ _ _ each
    refine ⟨(List.range len).map f, ⟨by simp, hl, fun hn => ?_⟩⟩
    obtain ⟨b, o, spot⟩ := ad
    have h0 := (hfv 0 (by omega)).1
    have hspot : spot = none := by simpa [Addr.add] using World.cell?_spot h0
    subst hspot
    refine ⟨b, o, rfl, fun i hi => ?_⟩
    obtain ⟨k0, k1, k2, k3⟩ := hfv i (by omega)
    rw [Addr.add_lit] at k0 k1 k2 k3
    have e : ((List.range len).map f).getD i .z0 = f i := by rw [List.getD_eq_getElem?_getD, List.getElem?_map, List.getElem?_range hi]; rfl
    rw [e]
    exact ⟨k0, by rw [Nat.add_assoc]; exact k1, by rw [Nat.add_assoc]; exact k2, by rw [Nat.add_assoc]; exact k3⟩

end Go.Proofs.Ytnhdfojbffaifaa.M
