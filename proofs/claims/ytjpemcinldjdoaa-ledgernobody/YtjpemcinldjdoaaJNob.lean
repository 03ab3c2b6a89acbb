/-
  Own text: a ledger that no call made.
-/
import Derived.Test.YtjpemcinldjdoaaJLed
namespace Go.Proofs.Ytjpemcinldjdoaa.M
open Go.ChangeShapes Go.WideShapes Go.ChangeAt Go.RowKit

/-- Nil, or a plain one. -/
def Nob (w : World) (v : Value) : Prop := v = .pointer none ∨ ∃ g, v = .pointer (some ⟨g, 0, none⟩) ∧ w.cell? ⟨g, 0, none⟩ = some (.slice none 0 0)

theorem Nob.below {w w' : World} {v : Value} (h : Nob w v) (hb : Below w.heap.size w w') : Nob w' v := by
  rcases h with h | ⟨g, h1, h2⟩
  · exact Or.inl h
  · exact Or.inr ⟨g, h1, (hb.cell (World.block_lt_of_cell? _ _ h2)).trans h2⟩

set_option maxRecDepth 20000 in
theorem made_no (v : Value) (w : World) (h : Nob w v) :
    Calls Try.prog 16 #[v] w fun o w' => o = .returned (.bool false) ∧ w' = w := by
  rcases h with rfl | ⟨g, rfl, h⟩
  · go_enter Try.func16, Try.ntmps16
    go_wp2_with fail
    go_ret
    exact ⟨rfl, rfl⟩
  · go_enter Try.func16, Try.ntmps16
    go_wp2_with fail
    go_ret
    exact ⟨rfl, rfl⟩

set_option maxRecDepth 20000 in
theorem At_no (v : Value) (w : World) (h : Nob w v) :
    Calls Try.prog 12 #[v] w fun o w' => o = .returned (.int .i64 0) ∧ w' = w := by
  have hm := made_no v w h
  clear h
  go_enter Try.func12, Try.ntmps12
  go_wp2_with fail
  refine hm.mono ?_
  rintro o w1 ⟨rfl, hw⟩
  subst w1
  go_wp2_with fail
  go_ret
  exact ⟨rfl, rfl⟩

set_option maxRecDepth 20000 in
theorem Clone_no (v : Value) (w : World) (h : Nob w v) :
    Calls Try.prog 13 #[v] w fun o w' => o = .returned (.pointer none) ∧ w' = w := by
  have hm := made_no v w h
  clear h
  go_enter Try.func13, Try.ntmps13
  go_wp2_with fail
  refine hm.mono ?_
  rintro o w1 ⟨rfl, hw⟩
  subst w1
  go_wp2_with fail
  go_ret
  exact ⟨rfl, rfl⟩

set_option maxRecDepth 20000 in
theorem Apply_no (v : Value) (i : Int) (b : Value) (w : World) (h : Nob w v) :
    Calls Try.prog 7 #[v, .int .i64 i, b] w fun o w' => o = .returned (.int .i64 6) ∧ w' = w := by
  have hm := made_no v w h
  clear h
  go_enter Try.func7, Try.ntmps7
  go_wp2_with fail
  refine hm.mono ?_
  rintro o w1 ⟨rfl, hw⟩
  subst w1
  go_wp2_with fail
  go_ret
  exact ⟨rfl, rfl⟩

set_option maxRecDepth 20000 in
theorem Chain_no (v : Value) (w : World) (h : Nob w v) :
    Calls Try.prog 11 #[v] w fun o w' => o = .returned (.agg #[.int .i64 0, .slice none 0 0]) ∧ Below w.heap.size w w' := by
  have hba := below_alloc w (.cells #[.int .i64 0, .slice none 0 0] 36)
  have hZ := At.new 36 w #[.int .i64 0, .slice none 0 0]
  have hm := made_no v _ (h.below hba)
  obtain ⟨z0, z1⟩ := hZ.two
  have f0 := hZ.free 0
  have f1 := hZ.free 1
  clear h
  go_enter Try.func11, Try.ntmps11
  go_wp2_with fail
  refine hm.mono ?_
  rintro o w1 ⟨rfl, hw⟩
  subst w1
  clear hm
  go_wp2_with fail
  exact bodyPost_ret (results_chain1 (p := 2) rfl _ _ w.heap.size _ _ rfl z0 z1) rfl ⟨rfl, hba⟩

set_option maxRecDepth 20000 in
theorem Of_no (v : Value) (e : Int) (w : World) (h : Nob w v) :
    Calls Try.prog 6 #[v, .int .i64 e] w fun o w' => o = .returned (.tuple #[.agg #[.int .i64 0, .slice none 0 0], .bool false]) ∧ Below w.heap.size w w' := by
  have hba := below_alloc w (.cells #[.int .i64 0, .slice none 0 0] 36)
  have hZ := At.new 36 w #[.int .i64 0, .slice none 0 0]
  have hm := made_no v _ (h.below hba)
  obtain ⟨z0, z1⟩ := hZ.two
  have f0 := hZ.free 0
  have f1 := hZ.free 1
  clear h
  go_enter Try.func6, Try.ntmps6
  go_wp2_with fail
  refine hm.mono ?_
  rintro o w1 ⟨rfl, hw⟩
  subst w1
  clear hm
  go_wp2_with fail
  exact bodyPost_ret (results_chain (p := 4) (u := 5) rfl _ _ w.heap.size _ _ rfl z0 z1) rfl ⟨rfl, hba⟩

end Go.Proofs.Ytjpemcinldjdoaa.M
