/-
  Own text: what the form tells of an argument that is a slice of integers, with its own bound on sizes.
-/
import Derived.Test.YtbbcondoenmapabOpen
import Derived.SizedLaws
namespace Go.Proofs.Ytbbcondoenmapab.M
open Go.ChangeShapes Go.WideShapes Go.ChangeAt Go.RowKit

theorem open_rd_sized {H : Type} {enc : TypeId × Value → H} {P : Program} {t e : TypeId} {k : IntKind} (ht : P.underlying t = some (.slice e)) (he : P.underlying e = some (.int k)) (hc : P.cellsOf e = 1) {ts : List TypeId} {ds : List (DataW H)} (hsz : (DataW.weightsEach P ts ds).all (· ≤ reachBytes) = true) {j : Nat} (hj : ts[j]? = some t) {W : World} {a : Option Addr} {len cap : Nat} {d : DataW H} (hd : ds[j]? = some d) {p : List MemPlace}
    (h : DataW.Trod enc P W 0 (fun _ => true) true t (.slice a len cap) d p) : ∃ xs, Rd k W a len cap xs ∧ (∀ x ∈ xs, (Lit.int k x).wf = true) ∧ len * P.bytesOf e ≤ 140737488351232 := by
  have h' := h
  obtain ⟨fuel, hf⟩ := h
  rcases open_ints ht he hc hf with ⟨hcs, _⟩ | ⟨x, l, c, zs, hcs, _, hl, hm, hz, hx, hcell, hwz⟩
  · simp [Value.cells] at hcs
    obtain ⟨rfl, rfl, rfl⟩ := hcs
    exact ⟨[], Rd.empty _ _ _ _ (fun _ => rfl), (fun x hx => by cases hx), by simp⟩
  · simp [Value.cells] at hcs
    obtain ⟨rfl, rfl, rfl⟩ := hcs
    simp only [Prod.mk.injEq] at hx
    obtain ⟨rfl, rfl⟩ := hx
    have hw := sized_slice hsz hj hd ht
    obtain ⟨xs, h1, h2⟩ := open_rd ht he hc h'
    refine ⟨xs, h1, h2, Nat.le_trans (Nat.mul_le_mul ?_ (Nat.le_refl _)) hw⟩
    have hz' : zs.length = cap := by simpa using hz
    simp only [lits, List.length_map, List.length_take, List.length_drop]
    omega

end Go.Proofs.Ytbbcondoenmapab.M
