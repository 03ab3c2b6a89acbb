/-
  Own text: what the form tells of an argument that is an array of integers.
-/
import Derived.Test.YtlmmidlegdmjpaaGArr
import Derived.Test.YtlmmidlegdmjpaaOpen
import Derived.WideKeyPair
namespace Go.Proofs.Ytlmmidlegdmjpaa.M
open Go.ChangeShapes Go.WideShapes Go.ChangeAt Go.RowKit

theorem mapM_each {β : Type} {f : Nat → Option β} : ∀ {l : List Nat} {ys : List β}, l.mapM f = some ys → ∀ i ∈ l, ∃ y, f i = some y := by
  intro l
  induction l with
  | nil => intro ys _ i hi; cases hi
  | cons a l ih =>
    intro ys h i hi
    rw [List.mapM_cons] at h
    simp only [bind, Option.bind_eq_some_iff] at h
    obtain ⟨y, hy, zs, hz, _⟩ := h
    rcases List.mem_cons.1 hi with rfl | h2
    · exact ⟨y, hy⟩
    · exact ih hz i h2

theorem open_nums {H : Type} {enc : TypeId × Value → H} {P : Program} {t e : TypeId} {k : IntKind} {n : Nat} (ht : P.underlying t = some (.array n e)) (he : P.underlying e = some (.int k)) (hc : P.cellsOf e = 1) (hct : P.cellsOf t = n) {W : World} {r : Reach} {b0 : Nat} {v : Value} {d : DataW H} {p : List MemPlace}
    (hval : Value.okWide P W r b0 t v) (hd : DataW.Trod enc P W 0 (fun _ => true) true t v d p) : ∃ xs : List Int, v = .agg (nums k xs) ∧ xs.length = n ∧ ∀ x ∈ xs, (Lit.int k x).wf = true := by
  simp only [Value.okWide, ht] at hval
  obtain ⟨cs, rfl, h2, _⟩ := hval
  rw [hct] at h2
  obtain ⟨fuel, hf⟩ := hd
  cases fuel with
  | zero => simp [DataW.trod] at hf
  | succ m =>
    rw [DataW.trod_step] at hf
    unfold DataW.trodStep at hf
    simp only [ht, Value.cells] at hf
    rw [if_pos (by rw [hct]; simpa using h2)] at hf
    simp only [Option.map_eq_some_iff] at hf
    obtain ⟨ys, hy, _⟩ := hf
    have each : ∀ i, i < n → ∃ a : Int, cs[i]? = some (.int k a) ∧ (Lit.int k a).wf = true := by
      intro i hi
      obtain ⟨y, hi2⟩ := mapM_each hy i (by simpa using hi)
      rw [hc, Nat.mul_one] at hi2
      obtain ⟨a, ea, _, wa⟩ := DataW.trod_int he hi2
      refine ⟨a, ?_, wa⟩
      have h3 : (List.take 1 (List.drop i cs.toList))[0]? = some (.int k a) := by rw [ea]; rfl
      rw [List.getElem?_take, if_pos (by decide), List.getElem?_drop, Nat.add_zero, Array.getElem?_toList] at h3
      exact h3
    refine ⟨cs.toList.map intOf, ?_, by simpa using h2, ?_⟩
    · congr 1
      apply Array.ext_getElem?
      intro i
      have e1 : (nums k (cs.toList.map intOf))[i]? = (cs[i]?).map (fun v => Value.int k (intOf v)) := by
        unfold nums
        simp
        rfl
      rw [e1]
      rcases Nat.lt_or_ge i n with h | h
      · obtain ⟨a, ha, _⟩ := each i h
        rw [ha]
        rfl
      · rw [Array.getElem?_eq_none (by omega)]
        rfl
    · intro x hx
      rw [List.mem_map] at hx
      obtain ⟨u, hu, rfl⟩ := hx
      obtain ⟨i, hi, rfl⟩ := List.getElem_of_mem hu
      obtain ⟨a, ha, wa⟩ := each i (by rw [← h2]; simpa using hi)
      have h5 : cs.toList[i] = .int k a := by
        have h6 := Array.getElem?_toList (xs := cs) (i := i)
        rw [ha, List.getElem?_eq_getElem hi] at h6
        exact Option.some.inj h6
      rw [h5]
      exact wa

end Go.Proofs.Ytlmmidlegdmjpaa.M
