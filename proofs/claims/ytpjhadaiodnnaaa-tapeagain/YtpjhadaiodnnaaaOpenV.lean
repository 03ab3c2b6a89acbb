/-
  Own text: what the form tells of an argument that is a slice of slices of integers.
-/
import Derived.Test.YtpjhadaiodnnaaaMemV
import Derived.Test.YtpjhadaiodnnaaaOpen
import Derived.Deep.Slices
namespace Go.Proofs.Ytpjhadaiodnnaaa.M
open Go.ChangeShapes Go.WideShapes Go.ChangeAt Go.RowKit

theorem open_rd_raw {H : Type} {enc : TypeId × Value → H} {P : Program} {t e : TypeId} {k : IntKind} (ht : P.underlying t = some (.slice e)) (he : P.underlying e = some (.int k)) (hc : P.cellsOf e = 1) {W : World} {fuel : Nat} {cs : List Value} {x : DataW H × List MemPlace}
    (hf : DataW.trod enc P W 0 (fun _ => true) true fuel t cs = some x) : ∃ a len cap xs, cs = [.slice a len cap] ∧ Rd k W a len cap xs ∧ ∀ x ∈ xs, (Lit.int k x).wf = true := by
  rcases open_ints ht he hc hf with ⟨hcs, _⟩ | ⟨x, l, c, zs, hcs, _, hl, hm, hz, _, hcell, hwz⟩
  · exact ⟨none, 0, 0, [], hcs, Rd.empty _ _ _ _ (fun _ => rfl), fun x hx => by cases hx⟩
  · have hz' : zs.length = c := by simpa using hz
    refine ⟨some x, l, c, zs.take l, hcs, ⟨by simp; omega, hl, (fun h => by cases h), fun hn => ?_⟩, fun y hy => hwz y (List.mem_of_mem_take hy)⟩
    obtain ⟨b, o, spot⟩ := x
    have h0 := hcell 0 (by omega)
    have hspot : spot = none := by simpa [Addr.add] using World.cell?_spot h0
    subst hspot
    refine ⟨b, o, rfl, fun i hi => ?_⟩
    have hi' := hcell i (by omega)
    rw [Addr.add_lit] at hi'
    rw [hi', List.getD_eq_getElem?_getD, List.getD_eq_getElem?_getD, List.getElem?_take, if_pos hi]

theorem open_slices {H : Type} {enc : TypeId × Value → H} {P : Program} {t e u : TypeId} (ht : P.underlying t = some (.slice e)) (he : P.underlying e = some (.slice u)) (hu : P.underlying u = some (.int .u8)) (hce : P.cellsOf e = 1) (hcu : P.cellsOf u = 1) {W : World} {a : Option Addr} {len cap : Nat} {d : DataW H} {p : List MemPlace}
    (h : DataW.Trod enc P W 0 (fun _ => true) true t (.slice a len cap) d p) : ∃ vs xss, RdV W a len cap vs ∧ Sls W vs xss ∧ len ≤ maxLen ∧ ∀ xs ∈ xss, By xs := by
  obtain ⟨fuel, hf⟩ := h
  rcases Deep.open_slice ht hf with ⟨hcs, _⟩ | ⟨x, l, c, m, n, D, Pl, hcs, _, hl, hm, hmm, _, hx⟩
  · simp [Value.cells] at hcs
    obtain ⟨rfl, rfl, rfl⟩ := hcs
    exact ⟨[], [], ⟨rfl, Nat.le_refl _, fun _ => rfl, fun h => absurd h (Nat.lt_irrefl _)⟩, Sls.nil _, by unfold maxLen; omega, fun x hx => by cases hx⟩
  · simp [Value.cells] at hcs
    obtain ⟨rfl, rfl, rfl⟩ := hcs
    simp only [if_true] at hmm
    subst hmm
    have each : ∀ i, i < m → ∃ y : Value × List Int, W.cell? (x.add i) = some y.1 ∧ (∃ q k d, y.1 = .slice q k d ∧ Rd .u8 W q k d y.2) ∧ By y.2 := by
      intro i hi
      obtain ⟨cs', h1, h2⟩ := hx i hi
      rw [hce, Nat.mul_one] at h1
      obtain ⟨_, hlen, hcell⟩ := World.cells?_some h1
      obtain ⟨q, k, d, xs, hcs', hr, hw⟩ := open_rd_raw he hu hcu h2
      subst hcs'
      have h3 := hcell 0 (by decide)
      refine ⟨(.slice q k d, xs), ?_, ⟨q, k, d, rfl, hr⟩, by_of_wf hw⟩
      rw [Deep.add_add] at h3
      simpa using h3
    obtain ⟨f, hfv⟩ := Deep.choose_lt each
    refine ⟨(List.range len).map fun i => (f i).1, (List.range len).map fun i => (f i).2, ⟨by simp, hl, (fun h => by cases h), fun hn => ?_⟩, ⟨by simp, fun i hi => ?_⟩, Nat.le_trans hl hm, fun xs hxs => ?_⟩
    · obtain ⟨b, o, spot⟩ := x
      have h0 := (hfv 0 (by omega)).1
      have hspot : spot = none := by simpa [Addr.add] using World.cell?_spot h0
      subst hspot
      refine ⟨b, o, rfl, fun i hi => ?_⟩
      have h1 := (hfv i (by omega)).1
      rw [Addr.add_lit] at h1
      rw [h1, List.getD_eq_getElem?_getD, List.getElem?_map, List.getElem?_range hi]
      rfl
    · have hi' : i < len := by simpa using hi
      obtain ⟨q, k, d, e1, r⟩ := (hfv i (by omega)).2.1
      refine ⟨q, k, d, ?_, ?_⟩
      · rw [List.getD_eq_getElem?_getD, List.getElem?_map, List.getElem?_range hi']; exact e1
      · rw [List.getD_eq_getElem?_getD, List.getElem?_map, List.getElem?_range hi']; exact r
    · obtain ⟨i, hi, rfl⟩ := List.mem_map.1 hxs
      exact (hfv i (by have := List.mem_range.1 hi; omega)).2.2

end Go.Proofs.Ytpjhadaiodnnaaa.M
