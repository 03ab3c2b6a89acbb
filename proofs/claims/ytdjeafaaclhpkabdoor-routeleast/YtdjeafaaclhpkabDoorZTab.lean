/-
  Own text: the orders of sites, as the row lists them, lie in the first block.
-/
import Derived.Test.YtdjeafaaclhpkabDoorZBest
import Derived.Test.YtdjeafaaclhpkabDoorRows
import Derived.Deep.DeepHandedRow
import Derived.Lib.LaidTab
namespace Go.Proofs.YtdjeafaaclhpkabDoor
open Go.ChangeShapes Go.WideShapes Go.ChangeAt Go.RowKit M

theorem gOrd : Tryd.prog.globalNamed "towline/route.orders" = some 0 := by kernel_rfl
theorem gOrdType : (Tryd.prog.globals[0]?).map (·.type) = some 50 := by kernel_rfl
theorem cellsOrd : Tryd.prog.cellsOf 50 = 18 := by kernel_rfl
theorem cellsRow : Tryd.prog.cellsOf 23 = 3 := by kernel_rfl
theorem cellsInt : Tryd.prog.cellsOf 3 = 1 := by kernel_rfl

/-- An array of arrays that reads so: each part reads as its own. -/
theorem parts_of {H : Type} {enc : TypeId × Value → H} {P : Program} {w : World} {base : Nat} {sp : Nat → Bool} {held : Bool} {fuel : Nat} {t e : TypeId} {n k ct : Nat} {cs : List Value} {ds : List (DataW H)} {p : List MemPlace}
    (ht : P.underlying t = some (.array n e)) (hce : P.cellsOf e = k) (hct : P.cellsOf t = ct)
    (h : DataW.trod enc P w base sp held fuel t cs = some (.agg ds, p)) : cs.length = ct ∧ ∀ i d, i < n → ds[i]? = some d → ∃ m q, DataW.trod enc P w base sp held m e (List.take k (List.drop (i * k) cs)) = some (d, q) := by
  cases fuel with
  | zero => simp [DataW.trod] at h
  | succ fuel =>
    simp only [DataW.trod, ht, hce, hct] at h
    split at h
    · rename_i hl
      refine ⟨hl, fun i d hi hd => ?_⟩
      obtain ⟨xs, hm, hx⟩ := Option.map_eq_some_iff.1 h
      have hxs : xs.map (·.1) = ds := by
        have := congrArg Prod.fst hx
        simpa using this
      obtain ⟨b, hb, hf⟩ := Lib.mapM_at hm i i (by simp [hi])
      have h2 : (xs.map (·.1))[i]? = some b.1 := by simp [hb]
      rw [hxs, hd] at h2
      have h3 := Option.some.inj h2
      exact ⟨fuel, b.2, by rw [hf, h3]⟩
    · cases h

theorem row_at {cs : List Value} {i j : Nat} {zs : List Int} (hj : j < 3) (h : List.take 3 (List.drop (i * 3) cs) = zs.map fun z => Value.int .i64 z) : cs[i * 3 + j]? = (zs[j]?).map fun z => Value.int .i64 z := by
  have := congrArg (·[j]?) h
  simpa [List.getElem?_take, List.getElem?_drop, hj] using this

theorem tab_of {W : World} (h : laidMetH Tryd.prog Rows.routeLeastRow.laid W) : Tab18 W := by
  have h' : laidMet Tryd.prog [("towline/route.orders", Rows.laid_towline_route_orders)] W := h
  obtain ⟨ps, ⟨g', t', cs, fuel, p, q, hg', ht', hvar, hd, _, _⟩, _⟩ := h'
  obtain rfl := Option.some.inj (gOrd.symm.trans hg')
  obtain rfl := Option.some.inj (gOrdType.symm.trans ht')
  obtain ⟨hlen, hp⟩ := parts_of Tryd.underlying50 cellsRow cellsOrd hd
  have row : ∀ (i : Nat) (zs : List Int), i < 6 → (match (Rows.laid_towline_route_orders : DataW Unit) with | .agg ds => ds | _ => [])[i]? = some (Lib.tabData .i64 zs) → ∀ j, j < 3 → cs[i * 3 + j]? = (zs[j]?).map fun z => Value.int .i64 z := by
    intro i zs hi hz j hj
    obtain ⟨m, q2, hm⟩ := hp i _ hi hz
    rw [← Array.getElem?_toList]
    exact row_at hj (Lib.cells_of_tab Tryd.underlying23 Tryd.underlying3 cellsInt cellsRow hm)
  have r0 := row 0 [0, 1, 2] (by decide) rfl
  have r1 := row 1 [0, 2, 1] (by decide) rfl
  have r2 := row 2 [1, 0, 2] (by decide) rfl
  have r3 := row 3 [1, 2, 0] (by decide) rfl
  have r4 := row 4 [2, 0, 1] (by decide) rfl
  have r5 := row 5 [2, 1, 0] (by decide) rfl
  intro i hi
  have hc := World.var?_cell gOrd hvar i
  rw [hc]
  obtain ⟨a, b, hab, ha, hb⟩ : ∃ a b, i = a * 3 + b ∧ a < 6 ∧ b < 3 := ⟨i / 3, i % 3, by omega, by omega, by omega⟩
  subst hab
  obtain rfl | rfl | rfl | rfl | rfl | rfl : a = 0 ∨ a = 1 ∨ a = 2 ∨ a = 3 ∨ a = 4 ∨ a = 5 := by omega
  all_goals obtain rfl | rfl | rfl : b = 0 ∨ b = 1 ∨ b = 2 := by omega
  all_goals first
    | exact r0 0 (by decide) | exact r0 1 (by decide) | exact r0 2 (by decide)
    | exact r1 0 (by decide) | exact r1 1 (by decide) | exact r1 2 (by decide)
    | exact r2 0 (by decide) | exact r2 1 (by decide) | exact r2 2 (by decide)
    | exact r3 0 (by decide) | exact r3 1 (by decide) | exact r3 2 (by decide)
    | exact r4 0 (by decide) | exact r4 1 (by decide) | exact r4 2 (by decide)
    | exact r5 0 (by decide) | exact r5 1 (by decide) | exact r5 2 (by decide)

end Go.Proofs.YtdjeafaaclhpkabDoor
