/-
  Own text: what the form tells of homes and wishes that came in.
-/
import Derived.Test.YtigojnpjpagfjaaDoorVMask
import Derived.Test.YtigojnpjpagfjaaDoorOpenCh
import Derived.WideKeyPair
namespace Go.Proofs.YtigojnpjpagfjaaDoor.M
open Go.ChangeShapes Go.WideShapes Go.ChangeAt Go.RowKit

theorem mapM_each {β : Type} {f : Nat → Option β} : ∀ {l : List Nat} {ys : List β}, l.mapM f = some ys → ∀ i ∈ l, ∃ y, f i = some y := by
  intro l
  induction l with
  | nil => intro ys _ i hi; cases hi
  | cons a l ih =>
    intro ys h i hi
    rw [List.mapM_cons] at h
    simp only [bind, Option.bind_eq_some_iff] at h
    obtain ⟨y, hy, zs, hz, _⟩ := h
    rcases List.mem_cons.1 hi with rfl | h2
    · exact ⟨y, hy⟩
    · exact ih hz i h2

theorem open_nums {H : Type} {enc : TypeId × Value → H} {P : Program} {t e : TypeId} {k : IntKind} {n : Nat} (ht : P.underlying t = some (.array n e)) (he : P.underlying e = some (.int k)) (hc : P.cellsOf e = 1) (hct : P.cellsOf t = n) {W : World} {r : Reach} {b0 : Nat} {v : Value} {d : DataW H} {p : List MemPlace}
    (hval : Value.okWide P W r b0 t v) (hd : DataW.Trod enc P W 0 (fun _ => true) true t v d p) : ∃ xs : List Int, v = .agg (nums k xs) ∧ xs.length = n ∧ ∀ x ∈ xs, (Lit.int k x).wf = true := by
  simp only [Value.okWide, ht] at hval
  obtain ⟨cs, rfl, h2, _⟩ := hval
  rw [hct] at h2
  obtain ⟨fuel, hf⟩ := hd
  cases fuel with
  | zero => simp [DataW.trod] at hf
  | succ m =>
    rw [DataW.trod_step] at hf
    unfold DataW.trodStep at hf
    simp only [ht, Value.cells] at hf
    rw [if_pos (by rw [hct]; simpa using h2)] at hf
    simp only [Option.map_eq_some_iff] at hf
    obtain ⟨ys, hy, _⟩ := hf
    have each : ∀ i, i < n → ∃ a : Int, cs[i]? = some (.int k a) ∧ (Lit.int k a).wf = true := by
      intro i hi
      obtain ⟨y, hi2⟩ := mapM_each hy i (by simpa using hi)
      rw [hc, Nat.mul_one] at hi2
      obtain ⟨a, ea, _, wa⟩ := DataW.trod_int he hi2
      refine ⟨a, ?_, wa⟩
      have h3 : (List.take 1 (List.drop i cs.toList))[0]? = some (.int k a) := by rw [ea]; rfl
      rw [List.getElem?_take, if_pos (by decide), List.getElem?_drop, Nat.add_zero, Array.getElem?_toList] at h3
      exact h3
    refine ⟨cs.toList.map intOf, ?_, by simpa using h2, ?_⟩
    · congr 1
      apply Array.ext_getElem?
      intro i
      have e1 : (nums k (cs.toList.map intOf))[i]? = (cs[i]?).map (fun v => Value.int k (intOf v)) := by
        unfold nums
        simp
        rfl
      rw [e1]
      rcases Nat.lt_or_ge i n with h | h
      · obtain ⟨a, ha, _⟩ := each i h
        rw [ha]
        rfl
      · rw [Array.getElem?_eq_none (by omega)]
        rfl
    · intro x hx
      rw [List.mem_map] at hx
      obtain ⟨u, hu, rfl⟩ := hx
      obtain ⟨i, hi, rfl⟩ := List.getElem_of_mem hu
      obtain ⟨a, ha, wa⟩ := each i (by rw [← h2]; simpa using hi)
      have h5 : cs.toList[i] = .int k a := by
        have h6 := Array.getElem?_toList (xs := cs) (i := i)
        rw [ha, List.getElem?_eq_getElem hi] at h6
        exact Option.some.inj h6
      rw [h5]
      exact wa

set_option maxRecDepth 100000 in
theorem open_home {H : Type} {enc : TypeId × Value → H} {W : World} {r : Reach} {b0 : Nat} {v : Value} {d : DataW H} {p : List MemPlace} (hval : Value.okWide Tryd.prog W r b0 23 v) (hd : DataW.Trod enc Tryd.prog W 0 (fun _ => true) true 23 v d p) : ∃ h0 h1 h2 h3 h4 h5 : Int, v = .agg #[.int .i64 h0, .int .i64 h1, .int .i64 h2, .int .i64 h3, .int .i64 h4, .int .i64 h5] := by
  have c1 : Tryd.prog.cellsOf 3 = 1 := by kernel_rfl
  have c6 : Tryd.prog.cellsOf 23 = 6 := by kernel_rfl
  obtain ⟨xs, rfl, hl, _⟩ := open_nums (P := Tryd.prog) (t := 23) (e := 3) (k := .i64) (n := 6) Tryd.underlying23 Tryd.underlying3 c1 c6 hval hd
  match xs, hl with
  | [h0, h1, h2, h3, h4, h5], _ => exact ⟨h0, h1, h2, h3, h4, h5, rfl⟩

set_option maxRecDepth 100000 in
theorem open_wish {H : Type} {enc : TypeId × Value → H} {W : World} {r : Reach} {b0 : Nat} {v : Value} {d : DataW H} {p : List MemPlace} (hval : Value.okWide Tryd.prog W r b0 25 v) (hd : DataW.Trod enc Tryd.prog W 0 (fun _ => true) true 25 v d p) : ∃ v0 v1 v2 : Int, v = .agg #[.int .i64 v0, .int .i64 v1, .int .i64 v2] ∧ ((v0 ≤ 9223372036854775807 ∧ v1 ≤ 9223372036854775807) ∧ v2 ≤ 9223372036854775807) := by
  have c1 : Tryd.prog.cellsOf 3 = 1 := by kernel_rfl
  have c3 : Tryd.prog.cellsOf 25 = 3 := by kernel_rfl
  obtain ⟨xs, rfl, hl, hw⟩ := open_nums (P := Tryd.prog) (t := 25) (e := 3) (k := .i64) (n := 3) Tryd.underlying25 Tryd.underlying3 c1 c3 hval hd
  match xs, hl, hw with
  | [v0, v1, v2], _, hw => exact ⟨v0, v1, v2, rfl, ⟨(i64_bounds (hw v0 (by simp))).2, (i64_bounds (hw v1 (by simp))).2⟩, (i64_bounds (hw v2 (by simp))).2⟩

end Go.Proofs.YtigojnpjpagfjaaDoor.M
