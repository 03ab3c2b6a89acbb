/-
  Own text: the map that counts what was sent.
-/
import Derived.Test.YtmnipfdcbmamnaaNDo2
namespace Go.Proofs.Ytmnipfdcbmamnaa.M
open Go.ChangeShapes Go.WideShapes Go.ChangeAt Go.RowKit Go.ChangeMaps Go.MapKept Go.Maps

/-- What was sent, as a key. -/
def skV (x y : Int) (s : ByteArray) : Value := .agg #[.int .i64 x, .int .i64 y, .string s]

theorem zeroI : ∀ w : World, (zeroValue 3).run Try.prog w = .ok (.int .i64 0) w := Try.zeroValue3

/-- m[k] is read, its entry is fetched, in whichever order: the look-up answers the same behind the fetch. -/
theorem MapIs.entryL {P : Program} {k t e : TypeId} {w : World} {b n : Nat} {f : Value → Option Value} {key : Value} {kl : Lit} (h : MapIs P k w b n f) (hn : n ≤ maxLen) (K : WideMaps.KeyLaw P k) (ht : P.underlying t = some (.map k e)) {z : Value} (hz : ∀ u : World, (zeroValue e).run P u = .ok z u) (hkey : keyOf P k key = some kl) :
    ∃ (st : Nat) (o1 : Obj), (Instr.mapEntry t (.map (some b)) key).run P w = .ok (.tuple #[(f key).getD z, goInt st]) (setBlock w b o1) ∧
      (∀ w2 : World, w2.heap[b]? = some o1 → (Instr.lookup t (.map (some b)) key false).run P w2 = .ok ((f key).getD z) w2) ∧
      ∀ (w2 : World) (val : Value), w2.heap[b]? = some o1 → ∃ o2, (Instr.entryStore t (.map (some b)) (goInt st) val).run P w2 = .ok () (setBlock w2 b o2) ∧
        ∀ w3 f', w3.heap[b]? = some o2 → f' key = some val → (∀ x, x ≠ key → f' x = f x) → MapIs P k w3 b (n + 1) f' := by
  obtain ⟨st, o1, h1, h3⟩ := h.entry hn K ht hz hkey
  refine ⟨st, o1, h1, ?_, h3⟩
  have hlt := h.lt
  have hput := h.put (Keyed.of_law K) ht hkey z
  have h0 := h
  obtain ⟨es, clock, hb, ⟨hst, hsz⟩, E, S⟩ := h
  have Kd := Keyed.of_law K
  rcases Kd.find w hkey es.toList E.keys with ⟨g1, g2⟩ | ⟨j, e0, g1, g2, g3⟩
  · have hr : (Instr.mapEntry t (.map (some b)) key).run P w = .ok (.tuple #[z, goInt clock]) (setBlock w b (.map (es.push ⟨key, z, clock⟩) (clock + 1))) := by
      simp [Instr.mapEntry, run_underlying ht, MapKept.run_getObj_map hb, Kd.check w false hkey, g1, hz, MapKept.run_setObj_map _ hb, Result.andThen, setBlock]
    have hr2 : (Instr.mapUpdate t (.map (some b)) key z).run P w = .ok () (setBlock w b (.map (es.push ⟨key, z, clock⟩) (clock + 1))) := by
      simp [Instr.mapUpdate, run_underlying ht, MapKept.run_getObj_map hb, Kd.check w false hkey, g1, MapKept.run_setObj_map _ hb, Result.andThen, setBlock]
    have ho : o1 = .map (es.push ⟨key, z, clock⟩) (clock + 1) := by
      rw [h1] at hr
      injection hr with _ g3
      have g4 := congrArg (fun W : World => W.heap[b]?) g3
      rw [heap_setBlock w b _ hlt, heap_setBlock w b _ hlt] at g4
      exact Option.some.inj g4
    have hf : f key = none := by
      have s := S key kl hkey
      cases hf : f key with
      | none => rfl
      | some v =>
        rw [hf] at s
        obtain ⟨e1, n1, n2, _⟩ := s
        exact absurd n2 (g2 e1 n1)
    obtain ⟨o, p1, p2⟩ := hput
    have ho2 : o = o1 := by
      rw [p1] at hr2
      injection hr2 with _ g3
      have g4 := congrArg (fun W : World => W.heap[b]?) g3
      rw [heap_setBlock w b _ hlt, heap_setBlock w b _ hlt] at g4
      rw [ho]
      exact Option.some.inj g4
    intro w2 hw2
    classical
    have hm := p2 w2 (fun x => if x = key then some z else f x) (by rw [ho2]; exact hw2) (if_pos rfl) (fun x hx => if_neg hx)
    have := hm.look Kd ht (hz w2) hkey
    rw [this, hf, if_pos rfl]
    rfl
  · have hj : es[j]? = some e0 := by simpa using g2
    have hsame : es.modify j (fun e => { e with key := key }) = es := by
      apply Array.ext'
      rw [Array.toList_modify, modify_eq_set _ _ _ _ g2]
      have : ({ e0 with key := key } : MapEntry) = e0 := by rw [← g3]
      rw [this]
      exact WideElems.set_self _ _ _ g2
    have hr : (Instr.mapEntry t (.map (some b)) key).run P w = .ok (.tuple #[e0.val, goInt e0.born]) (setBlock w b (.map es clock)) := by
      simp [Instr.mapEntry, run_underlying ht, MapKept.run_getObj_map hb, Kd.check w false hkey, g1, hj, g3, Kd.stays w hkey, hsame, MapKept.run_setObj_map _ hb, Result.andThen, setBlock]
    have ho : o1 = .map es clock := by
      rw [h1] at hr
      injection hr with _ g3
      have g4 := congrArg (fun W : World => W.heap[b]?) g3
      rw [heap_setBlock w b _ hlt, heap_setBlock w b _ hlt] at g4
      exact Option.some.inj g4
    intro w2 hw2
    exact (h0.kept (w' := w2) (by rw [hw2, ho, hb])).look Kd ht (hz w2) hkey

end Go.Proofs.Ytmnipfdcbmamnaa.M
