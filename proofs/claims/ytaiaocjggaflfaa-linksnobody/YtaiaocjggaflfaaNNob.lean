/-
  Own text: a Net that no call made.
-/
import Derived.Test.YtaiaocjggaflfaaNAwake
namespace Go.Proofs.Ytaiaocjggaflfaa.M
open Go.ChangeShapes Go.WideShapes Go.ChangeAt Go.RowKit Go.ChangeMaps Go.MapKept Go.Maps

/-- Nil, or a plain one. -/
def Nob (w : World) (v : Value) : Prop := v = .pointer none ∨ ∃ g, v = .pointer (some ⟨g, 0, none⟩) ∧ w.cell? ⟨g, 0, none⟩ = some (.map none)

theorem Nob.below {w w' : World} {v : Value} (h : Nob w v) (hb : Below w.heap.size w w') : Nob w' v := by
  rcases h with h | ⟨g, h1, h2⟩
  · exact Or.inl h
  · exact Or.inr ⟨g, h1, (hb.cell (World.block_lt_of_cell? _ _ h2)).trans h2⟩

set_option maxRecDepth 20000 in
theorem nmade_no (v : Value) (w : World) (h : Nob w v) :
    Calls Try.prog 21 #[v] w fun o w' => o = .returned (.bool false) ∧ w' = w := by
  have hq := neqMap
  rcases h with rfl | ⟨g, rfl, h⟩
  · go_enter Try.func21, Try.ntmps21
    go_wp2_with fail
    go_ret
    exact ⟨rfl, rfl⟩
  · go_enter Try.func21, Try.ntmps21
    go_wp2_with fail
    go_ret
    exact ⟨rfl, rfl⟩

set_option maxRecDepth 20000 in
theorem nfind_no (v : Value) (x y i : Int) (w : World) (h : Nob w v) :
    Calls Try.prog 20 #[v, .agg #[.int .i64 x, .int .i64 y], .int .i64 i] w fun o w' => o = .returned (.tuple #[.string ⟨#[]⟩, .int .i64 6]) ∧ Below w.heap.size w w' := by
  have hba := below_alloc w (.cells #[.int .i64 x, .int .i64 y] 23)
  have hA := At.new 23 w #[.int .i64 x, .int .i64 y]
  obtain ⟨a0, a1⟩ := hA.two
  have hm := nmade_no v _ (h.below hba)
  clear h
  go_enter Try.func20, Try.ntmps20
  go_wp2_with fail
  refine hm.mono ?_
  rintro o w1 ⟨rfl, hw⟩
  subst w1
  go_wp2_with fail
  go_ret2
  exact ⟨rfl, hba⟩

set_option maxRecDepth 20000 in
theorem Send_no (v : Value) (x y : Int) (b : Value) (w : World) (h : Nob w v) :
    Calls Try.prog 13 #[v, .agg #[.int .i64 x, .int .i64 y], b] w fun o w' => o = .returned (.int .i64 6) ∧ Below w.heap.size w w' := by
  have hba := below_alloc w (.cells #[.int .i64 x, .int .i64 y] 23)
  have hA := At.new 23 w #[.int .i64 x, .int .i64 y]
  obtain ⟨a0, a1⟩ := hA.two
  have hm := nmade_no v _ (h.below hba)
  clear h
  go_enter Try.func13, Try.ntmps13
  go_wp2_with fail
  refine hm.mono ?_
  rintro o w1 ⟨rfl, hw⟩
  subst w1
  go_wp2_with fail
  go_ret
  exact ⟨rfl, hba⟩

set_option maxRecDepth 20000 in
theorem nLen_no (v : Value) (x y : Int) (w : World) (h : Nob w v) :
    Calls Try.prog 8 #[v, .agg #[.int .i64 x, .int .i64 y]] w fun o w' => o = .returned (.int .i64 0) ∧ Below w.heap.size w w' := by
  have hba := below_alloc w (.cells #[.int .i64 x, .int .i64 y] 23)
  have hA := At.new 23 w #[.int .i64 x, .int .i64 y]
  obtain ⟨a0, a1⟩ := hA.two
  have hm := nmade_no v _ (h.below hba)
  clear h
  go_enter Try.func8, Try.ntmps8
  go_wp2_with fail
  refine hm.mono ?_
  rintro o w1 ⟨rfl, hw⟩
  subst w1
  go_wp2_with fail
  go_ret
  exact ⟨rfl, hba⟩

set_option maxRecDepth 20000 in
theorem nLost_no (v : Value) (w : World) (h : Nob w v) :
    Calls Try.prog 9 #[v] w fun o w' => o = .returned (.int .i64 0) ∧ Below w.heap.size w w' := by
  have hba := Below.refl w.heap.size w
  have hm := nmade_no v w h
  clear h
  go_enter Try.func9, Try.ntmps9
  go_wp2_with fail
  refine hm.mono ?_
  rintro o w1 ⟨rfl, hw⟩
  subst w1
  go_wp2_with fail
  go_ret
  exact ⟨rfl, hba⟩

set_option maxRecDepth 20000 in
theorem nBusy_no (v : Value) (w : World) (h : Nob w v) :
    Calls Try.prog 10 #[v] w fun o w' => o = .returned (.slice none 0 0) ∧ Below w.heap.size w w' := by
  have hba := Below.refl w.heap.size w
  have hm := nmade_no v w h
  clear h
  go_enter Try.func10, Try.ntmps10
  go_wp2_with fail
  refine hm.mono ?_
  rintro o w1 ⟨rfl, hw⟩
  subst w1
  go_wp2_with fail
  go_ret
  exact ⟨rfl, hba⟩

set_option maxRecDepth 20000 in
theorem nClone_no (v : Value) (w : World) (h : Nob w v) :
    Calls Try.prog 11 #[v] w fun o w' => o = .returned (.pointer none) ∧ Below w.heap.size w w' := by
  have hba := Below.refl w.heap.size w
  have hm := nmade_no v w h
  clear h
  go_enter Try.func11, Try.ntmps11
  go_wp2_with fail
  refine hm.mono ?_
  rintro o w1 ⟨rfl, hw⟩
  subst w1
  go_wp2_with fail
  go_ret
  exact ⟨rfl, hba⟩

set_option maxRecDepth 20000 in
theorem Wall_no (v : Value) (s : Value) (w : World) (h : Nob w v) :
    Calls Try.prog 15 #[v, s] w fun o w' => o = .returned (.int .i64 6) ∧ Below w.heap.size w w' := by
  have hba := Below.refl w.heap.size w
  have hm := nmade_no v w h
  clear h
  go_enter Try.func15, Try.ntmps15
  go_wp2_with fail
  refine hm.mono ?_
  rintro o w1 ⟨rfl, hw⟩
  subst w1
  go_wp2_with fail
  go_ret
  exact ⟨rfl, hba⟩

set_option maxRecDepth 20000 in
theorem Forget_no (v : Value) (i : Int) (w : World) (h : Nob w v) :
    Calls Try.prog 19 #[v, .int .i64 i] w fun o w' => o = .returned (.int .i64 6) ∧ Below w.heap.size w w' := by
  have hba := Below.refl w.heap.size w
  have hm := nmade_no v w h
  clear h
  go_enter Try.func19, Try.ntmps19
  go_wp2_with fail
  refine hm.mono ?_
  rintro o w1 ⟨rfl, hw⟩
  subst w1
  go_wp2_with fail
  go_ret
  exact ⟨rfl, hba⟩

set_option maxRecDepth 20000 in
theorem Take_no (v : Value) (x y i : Int) (w : World) (h : Nob w v) :
    Calls Try.prog 14 #[v, .agg #[.int .i64 x, .int .i64 y], .int .i64 i] w fun o w' => o = .returned (.tuple #[.slice none 0 0, .bool false, .int .i64 6]) ∧ Below w.heap.size w w' := by
  have hba := below_alloc w (.cells #[.int .i64 x, .int .i64 y] 23)
  have hA := At.new 23 w #[.int .i64 x, .int .i64 y]
  obtain ⟨a0, a1⟩ := hA.two
  have hm := nfind_no v x y i _ (h.below hba)
  clear h
  go_enter Try.func14, Try.ntmps14
  go_wp2_with fail
  refine hm.mono ?_
  rintro o w1 ⟨rfl, hw⟩
  clear hm
  go_wp2_with fail
  go_ret3
  exact ⟨rfl, hba.trans (hw.mono hba.size)⟩

set_option maxRecDepth 20000 in
theorem Peek_no (v : Value) (x y i : Int) (w : World) (h : Nob w v) :
    Calls Try.prog 7 #[v, .agg #[.int .i64 x, .int .i64 y], .int .i64 i] w fun o w' => o = .returned (.tuple #[.slice none 0 0, .int .i64 6]) ∧ Below w.heap.size w w' := by
  have hba := below_alloc w (.cells #[.int .i64 x, .int .i64 y] 23)
  have hA := At.new 23 w #[.int .i64 x, .int .i64 y]
  obtain ⟨a0, a1⟩ := hA.two
  have hm := nfind_no v x y i _ (h.below hba)
  clear h
  go_enter Try.func7, Try.ntmps7
  go_wp2_with fail
  refine hm.mono ?_
  rintro o w1 ⟨rfl, hw⟩
  clear hm
  go_wp2_with fail
  go_ret2
  exact ⟨rfl, hba.trans (hw.mono hba.size)⟩

set_option maxRecDepth 20000 in
theorem Lose_no (v : Value) (x y i : Int) (w : World) (h : Nob w v) :
    Calls Try.prog 17 #[v, .agg #[.int .i64 x, .int .i64 y], .int .i64 i] w fun o w' => o = .returned (.int .i64 6) ∧ Below w.heap.size w w' := by
  have hba := below_alloc w (.cells #[.int .i64 x, .int .i64 y] 23)
  have hA := At.new 23 w #[.int .i64 x, .int .i64 y]
  obtain ⟨a0, a1⟩ := hA.two
  have hm := nfind_no v x y i _ (h.below hba)
  clear h
  go_enter Try.func17, Try.ntmps17
  go_wp2_with fail
  refine hm.mono ?_
  rintro o w1 ⟨rfl, hw⟩
  clear hm
  go_wp2_with fail
  go_ret
  exact ⟨rfl, hba.trans (hw.mono hba.size)⟩

set_option maxRecDepth 20000 in
theorem Double_no (v : Value) (x y i : Int) (w : World) (h : Nob w v) :
    Calls Try.prog 18 #[v, .agg #[.int .i64 x, .int .i64 y], .int .i64 i] w fun o w' => o = .returned (.int .i64 6) ∧ Below w.heap.size w w' := by
  have hba := below_alloc w (.cells #[.int .i64 x, .int .i64 y] 23)
  have hA := At.new 23 w #[.int .i64 x, .int .i64 y]
  obtain ⟨a0, a1⟩ := hA.two
  have hm := nfind_no v x y i _ (h.below hba)
  clear h
  go_enter Try.func18, Try.ntmps18
  go_wp2_with fail
  refine hm.mono ?_
  rintro o w1 ⟨rfl, hw⟩
  clear hm
  go_wp2_with fail
  go_ret
  exact ⟨rfl, hba.trans (hw.mono hba.size)⟩

end Go.Proofs.Ytaiaocjggaflfaa.M
