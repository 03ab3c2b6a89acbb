/-
  Own text: what the form tells of an argument that is an array of three arrays of three integers.
-/
import Derived.Test.YtdjeafaaclhpkaaZArr
import Derived.Test.YtdjeafaaclhpkaaOpenCh
import Derived.WideKeyPair
namespace Go.Proofs.Ytdjeafaaclhpkaa.M
open Go.ChangeShapes Go.WideShapes Go.ChangeAt Go.RowKit

theorem mapM_each {β : Type} {f : Nat → Option β} : ∀ {l : List Nat} {ys : List β}, l.mapM f = some ys → ∀ i ∈ l, ∃ y, f i = some y := by
  intro l
  induction l with
  | nil => intro ys _ i hi; cases hi
  | cons a l ih =>
    intro ys h i hi
    rw [List.mapM_cons] at h
    simp only [bind, Option.bind_eq_some_iff] at h
    obtain ⟨y, hy, zs, hz, _⟩ := h
    rcases List.mem_cons.1 hi with rfl | h2
    · exact ⟨y, hy⟩
    · exact ih hz i h2

theorem open_arr {H : Type} {enc : TypeId × Value → H} {P : Program} {t e : TypeId} {n k ct : Nat} (ht : P.underlying t = some (.array n e)) (hc : P.cellsOf e = k) (hct : P.cellsOf t = ct) {W : World} {fuel : Nat} {cs : List Value} {x : DataW H × List MemPlace}
    (hf : DataW.trod enc P W 0 (fun _ => true) true fuel t cs = some x) : cs.length = ct ∧ ∃ m, ∀ i, i < n → ∃ y, DataW.trod enc P W 0 (fun _ => true) true m e (List.take k (List.drop (i * k) cs)) = some y := by
  cases fuel with
  | zero => simp [DataW.trod] at hf
  | succ m =>
    rw [DataW.trod_step] at hf
    unfold DataW.trodStep at hf
    simp only [ht] at hf
    by_cases hl : cs.length = P.cellsOf t
    · rw [if_pos hl] at hf
      simp only [Option.map_eq_some_iff] at hf
      obtain ⟨ys, hy, _⟩ := hf
      refine ⟨by rw [hl, hct], m, fun i hi => ?_⟩
      obtain ⟨y, hi2⟩ := mapM_each hy i (by simpa using hi)
      rw [hc] at hi2
      exact ⟨y, hi2⟩
    · rw [if_neg hl] at hf
      cases hf

theorem open_ways {H : Type} {enc : TypeId × Value → H} {W : World} {v : Value} {d : DataW H} {p : List MemPlace}
    (hd : DataW.Trod enc Try.prog W 0 (fun _ => true) true 24 v d p) : ∃ a0 a1 a2 a3 a4 a5 a6 a7 a8 : Int, v = .agg #[.int .i64 a0, .int .i64 a1, .int .i64 a2, .int .i64 a3, .int .i64 a4, .int .i64 a5, .int .i64 a6, .int .i64 a7, .int .i64 a8] := by
  obtain ⟨fuel, hf⟩ := hd
  have c9 : Try.prog.cellsOf 24 = 9 := by kernel_rfl
  have c3 : Try.prog.cellsOf 22 = 3 := by kernel_rfl
  have c1 : Try.prog.cellsOf 3 = 1 := by kernel_rfl
  obtain ⟨hlen, m, hm⟩ := open_arr Try.underlying24 c3 c9 hf
  have each : ∀ i, i < 3 → ∀ j, j < 3 → ∃ a : Int, v.cells.toList[i * 3 + j]? = some (.int .i64 a) := by
    intro i hi j hj
    obtain ⟨y, hy⟩ := hm i hi
    obtain ⟨_, m2, hm2⟩ := open_arr Try.underlying22 c1 c3 hy
    obtain ⟨z, hz⟩ := hm2 j hj
    obtain ⟨a, ea, _, _⟩ := DataW.trod_int Try.underlying3 hz
    refine ⟨a, ?_⟩
    have h3 : (List.take 1 (List.drop (j * 1) (List.take 3 (List.drop (i * 3) v.cells.toList))))[0]? = some (.int .i64 a) := by rw [ea]; rfl
    rw [List.getElem?_take, if_pos (by decide), List.getElem?_drop, List.getElem?_take, if_pos (by omega), List.getElem?_drop] at h3
    rw [← h3]
    congr 1
    omega
  cases v with
  | agg cs =>
    obtain ⟨cs⟩ := cs
    match cs, hlen with
    | [v0, v1, v2, v3, v4, v5, v6, v7, v8], _ =>
      obtain ⟨x0, e0⟩ := each 0 (by decide) 0 (by decide)
      obtain ⟨x1, e1⟩ := each 0 (by decide) 1 (by decide)
      obtain ⟨x2, e2⟩ := each 0 (by decide) 2 (by decide)
      obtain ⟨x3, e3⟩ := each 1 (by decide) 0 (by decide)
      obtain ⟨x4, e4⟩ := each 1 (by decide) 1 (by decide)
      obtain ⟨x5, e5⟩ := each 1 (by decide) 2 (by decide)
      obtain ⟨x6, e6⟩ := each 2 (by decide) 0 (by decide)
      obtain ⟨x7, e7⟩ := each 2 (by decide) 1 (by decide)
      obtain ⟨x8, e8⟩ := each 2 (by decide) 2 (by decide)
      simp [Value.cells] at e0 e1 e2 e3 e4 e5 e6 e7 e8
      subst e0 e1 e2 e3 e4 e5 e6 e7 e8
      exact ⟨x0, x1, x2, x3, x4, x5, x6, x7, x8, rfl⟩
  | _ => simp [Value.cells] at hlen

end Go.Proofs.Ytdjeafaaclhpkaa.M
