/-
  Own text: whether a table may be, in all.
-/
import Derived.Test.YtnbgdkdnlfomeaaDoorBCc
namespace Go.Proofs.YtnbgdkdnlfomeaaDoor.M
open Go.ChangeShapes Go.WideShapes Go.ChangeAt Go.RowKit Go.ChangeMaps Go.MapKept Go.Maps Go.Shelf Go.Proofs
set_option linter.unusedSimpArgs false

/-- What Check answers. -/
def chkE (ix ep : Int) (C : List Ce) (D : List Dn) : Int := if isPl ix ep = true then (if areC ix C = true then (if areD ix D = true then 0 else 140) else 140) else 140

set_option maxRecDepth 20000 in
set_option maxHeartbeats 1000000 in
theorem check_any (ix ep : Int) (cp : Option Addr) (cn cc : Nat) (dp : Option Addr) (dn dc : Nat) (C : List Ce) (D : List Dn) (w : World) (hC : RdG celS w cp cn cc C) (hD : RdG donS w dp dn dc D) (hn : dn ≤ 1099511627776)
    (hck : ∀ c ∈ C, c.k < 18446744073709551616 ∧ c.s.size ≤ 9223372036854775807) (hTa : Tabs w) :
    Calls Tryd.prog 11 #[.agg #[.int .i64 ix, .int .i64 ep, .slice cp cn cc, .slice dp dn dc]] w fun e w' => e = .returned (.int .i64 (chkE ix ep C D)) ∧ Below w.heap.size w w' := by
  have HB := below_alloc' w (.cells #[.int .i64 ix, .int .i64 ep, .slice cp cn cc, .slice dp dn dc] 25)
  have hTb := At.new 25 w #[.int .i64 ix, .int .i64 ep, .slice cp cn cc, .slice dp dn dc]
  have hp1 := fun W => isPl_any ix ep cp cn cc dp dn dc W
  have hp2 := fun W (h : RdG celS W cp cn cc C) (hT : Tabs W) => areC_any ix ep cp cn cc dp dn dc C W h hck hT
  have hp3 := fun W (h : RdG donS W dp dn dc D) => areD_any ix ep cp cn cc dp dn dc D W h hn
  generalize hW : (w.alloc (.cells #[.int .i64 ix, .int .i64 ep, .slice cp cn cc, .slice dp dn dc] 25)) = W0 at *
  unfold chkE
  generalize isPl ix ep = p1 at *
  generalize areC ix C = p2 at *
  generalize areD ix D = p3 at *
  cases p1 with
  | false =>
    rw [if_neg (by decide)]
    have z0 := hTb.cell 0
    have z1 := hTb.cell 1
    have z2 := hTb.cell 2
    have z3 := hTb.cell 3
    simp only [List.getElem?_toArray, List.getElem?_cons_zero, List.getElem?_cons_succ] at z0 z1 z2 z3
    go_enter Tryd.func11, Tryd.ntmps11
    go_wp2_with fail
    refine (hp1 _).mono ?_
    rintro e w1 ⟨rfl, hb⟩
    replace HB := HB.trans (hb.mono HB.size)
    replace hTb := hTb.below hb
    clear hb z0 z1 z2 z3
    go_wp2_with fail
    go_ret
    exact ⟨rfl, HB⟩
  | true =>
    rw [if_pos rfl]
    cases p2 with
    | false =>
      rw [if_neg (by decide)]
      have z0 := hTb.cell 0
      have z1 := hTb.cell 1
      have z2 := hTb.cell 2
      have z3 := hTb.cell 3
      simp only [List.getElem?_toArray, List.getElem?_cons_zero, List.getElem?_cons_succ] at z0 z1 z2 z3
      go_enter Tryd.func11, Tryd.ntmps11
      go_wp2_with fail
      refine (hp1 _).mono ?_
      rintro e w1 ⟨rfl, hb⟩
      replace HB := HB.trans (hb.mono HB.size)
      replace hTb := hTb.below hb
      clear hb z0 z1 z2 z3
      have z0 := hTb.cell 0
      have z1 := hTb.cell 1
      have z2 := hTb.cell 2
      have z3 := hTb.cell 3
      simp only [List.getElem?_toArray, List.getElem?_cons_zero, List.getElem?_cons_succ] at z0 z1 z2 z3
      have hc2 := hp2 _ (hC.below HB) (hTa.up HB)
      go_wp2_with fail
      refine (hc2).mono ?_
      rintro e w2 ⟨rfl, hb⟩
      replace HB := HB.trans (hb.mono HB.size)
      replace hTb := hTb.below hb
      clear hb z0 z1 z2 z3
      go_wp2_with fail
      go_ret
      exact ⟨rfl, HB⟩
    | true =>
      rw [if_pos rfl]
      cases p3 with
      | false =>
        rw [if_neg (by decide)]
        have z0 := hTb.cell 0
        have z1 := hTb.cell 1
        have z2 := hTb.cell 2
        have z3 := hTb.cell 3
        simp only [List.getElem?_toArray, List.getElem?_cons_zero, List.getElem?_cons_succ] at z0 z1 z2 z3
        go_enter Tryd.func11, Tryd.ntmps11
        go_wp2_with fail
        refine (hp1 _).mono ?_
        rintro e w1 ⟨rfl, hb⟩
        replace HB := HB.trans (hb.mono HB.size)
        replace hTb := hTb.below hb
        clear hb z0 z1 z2 z3
        have z0 := hTb.cell 0
        have z1 := hTb.cell 1
        have z2 := hTb.cell 2
        have z3 := hTb.cell 3
        simp only [List.getElem?_toArray, List.getElem?_cons_zero, List.getElem?_cons_succ] at z0 z1 z2 z3
        have hc2 := hp2 _ (hC.below HB) (hTa.up HB)
        go_wp2_with fail
        refine (hc2).mono ?_
        rintro e w2 ⟨rfl, hb⟩
        replace HB := HB.trans (hb.mono HB.size)
        replace hTb := hTb.below hb
        clear hb z0 z1 z2 z3
        have z0 := hTb.cell 0
        have z1 := hTb.cell 1
        have z2 := hTb.cell 2
        have z3 := hTb.cell 3
        simp only [List.getElem?_toArray, List.getElem?_cons_zero, List.getElem?_cons_succ] at z0 z1 z2 z3
        have hc3 := hp3 _ (hD.below HB)
        go_wp2_with fail
        refine (hc3).mono ?_
        rintro e w3 ⟨rfl, hb⟩
        replace HB := HB.trans (hb.mono HB.size)
        replace hTb := hTb.below hb
        clear hb z0 z1 z2 z3
        go_wp2_with fail
        go_ret
        exact ⟨rfl, HB⟩
      | true =>
        rw [if_pos rfl]
        have z0 := hTb.cell 0
        have z1 := hTb.cell 1
        have z2 := hTb.cell 2
        have z3 := hTb.cell 3
        simp only [List.getElem?_toArray, List.getElem?_cons_zero, List.getElem?_cons_succ] at z0 z1 z2 z3
        go_enter Tryd.func11, Tryd.ntmps11
        go_wp2_with fail
        refine (hp1 _).mono ?_
        rintro e w1 ⟨rfl, hb⟩
        replace HB := HB.trans (hb.mono HB.size)
        replace hTb := hTb.below hb
        clear hb z0 z1 z2 z3
        have z0 := hTb.cell 0
        have z1 := hTb.cell 1
        have z2 := hTb.cell 2
        have z3 := hTb.cell 3
        simp only [List.getElem?_toArray, List.getElem?_cons_zero, List.getElem?_cons_succ] at z0 z1 z2 z3
        have hc2 := hp2 _ (hC.below HB) (hTa.up HB)
        go_wp2_with fail
        refine (hc2).mono ?_
        rintro e w2 ⟨rfl, hb⟩
        replace HB := HB.trans (hb.mono HB.size)
        replace hTb := hTb.below hb
        clear hb z0 z1 z2 z3
        have z0 := hTb.cell 0
        have z1 := hTb.cell 1
        have z2 := hTb.cell 2
        have z3 := hTb.cell 3
        simp only [List.getElem?_toArray, List.getElem?_cons_zero, List.getElem?_cons_succ] at z0 z1 z2 z3
        have hc3 := hp3 _ (hD.below HB)
        go_wp2_with fail
        refine (hc3).mono ?_
        rintro e w3 ⟨rfl, hb⟩
        replace HB := HB.trans (hb.mono HB.size)
        replace hTb := hTb.below hb
        clear hb z0 z1 z2 z3
        go_wp2_with fail
        go_ret
        exact ⟨rfl, HB⟩

end Go.Proofs.YtnbgdkdnlfomeaaDoor.M
