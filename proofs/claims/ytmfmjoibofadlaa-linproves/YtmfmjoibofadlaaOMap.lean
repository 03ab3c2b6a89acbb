/-
  Own text: the map of blind points.
-/
import Derived.Test.YtmfmjoibofadlaaOGrow
namespace Go.Proofs.Ytmfmjoibofadlaa.M
open Go.ChangeShapes Go.WideShapes Go.ChangeAt Go.RowKit Go.ChangeMaps Go.MapKept Go.Maps
set_option linter.unusedSimpArgs false

theorem laid : laidOutB Try.prog = true := by kernel_rfl

theorem pointLaw : WideMaps.KeyLaw Try.prog 53 := deep_law_laid laid (m := 3) (by omega) (of_decide_eq_true (by kernel_rfl)) (by kernel_rfl) (by kernel_rfl)

/-- A point as a value. -/
def ptV (d : Nat) (v : ByteArray) : Value := .agg #[.int .u64 d, .string v]

theorem key_ok {d : Nat} {v : ByteArray} (hd : d < 18446744073709551616) (hv : v.size ≤ maxLen) : ∃ kl, keyOf Try.prog 53 (ptV d v) = some kl := by
  have hkt : Try.prog.keyType 53 = true := by kernel_rfl
  have hc : Try.prog.cellsOf 53 = 2 := by kernel_rfl
  have hc1 : Try.prog.cellsOf 51 = 1 := by kernel_rfl
  have hc2 : Try.prog.cellsOf 9 = 1 := by kernel_rfl
  have hx' : (Lit.int .u64 (d : Int)).wf = true := by
    simp [Lit.wf]
    exact ⟨by show (0 : Int) ≤ _; omega, by show _ ≤ (18446744073709551615 : Int); omega⟩
  obtain ⟨m, hm⟩ : ∃ m, Try.prog.types.size = m + 1 := ⟨Try.prog.types.size - 1, by kernel_rfl⟩
  refine ⟨.string (keyBytes [.int .u64 d, .string v.data.toList]), ?_⟩
  unfold keyOf ptV
  simp only [Try.underlying53]
  rw [if_pos (by simp [hkt, Value.formed, Try.underlying53, hc]), hm]
  unfold Program.keyLits
  simp only [Try.underlying53, Value.cells]
  rw [if_pos (by rw [hc]; exact ⟨rfl, by kernel_rfl⟩)]
  simp [hc1, hc2, Program.keyLits, Try.underlying51, Try.underlying9, hx', hv, List.mapM_cons, List.mapM_nil]

theorem mapP : Try.prog.underlying 57 = some (.map 53 71) := Try.underlying57

theorem zeroP (w : World) : (zeroValue 71).run Try.prog w = .ok (.agg #[]) w := Try.zeroValue71 w

/-- v, ok := m[k] -/
theorem MapIs.lookOk {P : Program} {k t e : TypeId} {w : World} {b n : Nat} {f : Value → Option Value} {key : Value} {kl : Lit} (h : MapIs P k w b n f) (K : Keyed P k) (ht : P.underlying t = some (.map k e)) {z : Value} (hz : (zeroValue e).run P w = .ok z w) (hkey : keyOf P k key = some kl) :
    (Instr.lookup t (.map (some b)) key true).run P w = .ok (.tuple #[(f key).getD z, .bool (f key).isSome]) w := by
  obtain ⟨es, clock, hb, ⟨_, _⟩, E, S⟩ := h
  have s := S key kl hkey
  rcases K.find w hkey es.toList E.keys with ⟨h1, h2⟩ | ⟨j, e0, h1, h2, h3⟩
  · have hf : f key = none := by
      cases hf : f key with
      | none => rfl
      | some v =>
        rw [hf] at s
        obtain ⟨e1, m1, m2, _⟩ := s
        exact absurd m2 (h2 e1 m1)
    rw [hf]
    simp [Instr.lookup, run_underlying ht, MapKept.run_getObj_map hb, K.check w _ hkey, h1, hz, Result.andThen]
  · have hm : e0 ∈ es.toList := List.mem_of_getElem? h2
    have hf : f key = some e0.val := by
      cases hf : f key with
      | none =>
        rw [hf] at s
        exact absurd h3 (s e0 hm)
      | some v =>
        rw [hf] at s
        obtain ⟨e1, m1, m2, m3⟩ := s
        rw [E.one hm m1 (h3.trans m2.symm), m3]
    rw [hf]
    simp [Instr.lookup, run_underlying ht, MapKept.run_getObj_map hb, K.check w _ hkey, h1, Result.andThen]

end Go.Proofs.Ytmfmjoibofadlaa.M
