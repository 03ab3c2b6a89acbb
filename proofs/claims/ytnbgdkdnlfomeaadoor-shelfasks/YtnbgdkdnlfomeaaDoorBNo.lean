/-
  Own text: the answers of a shelf that no call made.
-/
import Derived.Test.YtnbgdkdnlfomeaaDoorBAd
namespace Go.Proofs.YtnbgdkdnlfomeaaDoor.M
open Go.ChangeShapes Go.WideShapes Go.ChangeAt Go.RowKit Go.ChangeMaps Go.MapKept Go.Maps Go.Shelf Go.Proofs
set_option linter.unusedSimpArgs false

theorem infoTb : (Tryd.prog.info? 25).map (·.size) = some 4 := by kernel_rfl

set_option maxRecDepth 20000 in
set_option maxHeartbeats 1000000 in
theorem add_no {v : Value} {w : World} (h : NoS v w) (x : Rc) : Calls Tryd.prog 37 #[v, .agg #[.int .i64 x.ix, .int .i64 x.ep, .int .u8 (bt x.k 0), .int .u8 (bt x.k 1), .int .u8 (bt x.k 2), .int .u8 (bt x.k 3), .int .u8 (bt x.k 4), .int .u8 (bt x.k 5), .int .u8 (bt x.k 6), .int .u8 (bt x.k 7), .int .i64 x.v, .string x.s, .int .i64 x.c, .int .i64 x.q]] w fun e w' => e = .returned (.int .i64 6) ∧ Below w.heap.size w w' := by
  have hb1 := below_alloc' w (.cells #[.int .i64 x.ix, .int .i64 x.ep, .int .u8 (bt x.k 0), .int .u8 (bt x.k 1), .int .u8 (bt x.k 2), .int .u8 (bt x.k 3), .int .u8 (bt x.k 4), .int .u8 (bt x.k 5), .int .u8 (bt x.k 6), .int .u8 (bt x.k 7), .int .i64 x.v, .string x.s, .int .i64 x.c, .int .i64 x.q] 64)
  have hm := (h.below hb1).at
  clear h
  go_enter Tryd.func37, Tryd.ntmps37
  go_wp2_with fail
  refine hm.mono ?_
  rintro e w1 ⟨rfl, rfl⟩
  clear hm
  go_wp2_with fail
  go_ret
  exact ⟨rfl, hb1⟩

set_option maxRecDepth 20000 in
set_option maxHeartbeats 1000000 in
theorem cut_no {v : Value} {w : World} (h : NoS v w) (i : Int) : Calls Tryd.prog 36 #[v, .int .i64 i] w fun e w' => e = .returned (.int .i64 6) ∧ Below w.heap.size w w' := by
  have hm := open_no h i
  clear h
  go_enter Tryd.func36, Tryd.ntmps36
  go_wp2_with fail
  refine hm.mono ?_
  rintro e w1 ⟨rfl, rfl⟩
  clear hm
  go_wp2_with fail
  go_ret
  exact ⟨rfl, Below.refl _ _⟩

set_option maxRecDepth 20000 in
set_option maxHeartbeats 1000000 in
theorem settle_no {v : Value} {w : World} (h : NoS v w) (i : Int) : Calls Tryd.prog 46 #[v, .int .i64 i] w fun e w' => e = .returned (.int .i64 6) ∧ Below w.heap.size w w' := by
  have hm := open_no h i
  clear h
  go_enter Tryd.func46, Tryd.ntmps46
  go_wp2_with fail
  refine hm.mono ?_
  rintro e w1 ⟨rfl, rfl⟩
  clear hm
  go_wp2_with fail
  go_ret
  exact ⟨rfl, Below.refl _ _⟩

set_option maxRecDepth 20000 in
set_option maxHeartbeats 1000000 in
theorem fold_no {v : Value} {w : World} (h : NoS v w) (i : Int) : Calls Tryd.prog 31 #[v, .int .i64 i] w fun e w' => e = .returned (.int .i64 6) ∧ Below w.heap.size w w' := by
  have hm := h.at
  clear h
  go_enter Tryd.func31, Tryd.ntmps31
  go_wp2_with fail
  refine hm.mono ?_
  rintro e w1 ⟨rfl, rfl⟩
  clear hm
  go_wp2_with fail
  go_ret
  exact ⟨rfl, Below.refl _ _⟩

set_option maxRecDepth 20000 in
set_option maxHeartbeats 1000000 in
theorem epoch_no {v : Value} {w : World} (h : NoS v w) (i : Int) : Calls Tryd.prog 18 #[v, .int .i64 i] w fun e w' => e = .returned (.tuple #[.int .i64 0, .bool false]) ∧ Below w.heap.size w w' := by
  have hm := h.at
  clear h
  go_enter Tryd.func18, Tryd.ntmps18
  go_wp2_with fail
  refine hm.mono ?_
  rintro e w1 ⟨rfl, rfl⟩
  clear hm
  go_wp2_with fail
  exact bodyPost_ret (v := .tuple #[.int .i64 0, .bool false]) (by simp [results, Tryd.results18, go_sem]) rfl ⟨rfl, Below.refl _ _⟩

set_option maxRecDepth 20000 in
set_option maxHeartbeats 1000000 in
theorem known_no {v : Value} {w : World} (h : NoS v w) (c q : Int) : Calls Tryd.prog 20 #[v, .agg #[.int .i64 c, .int .i64 q]] w fun e w' => e = .returned (.tuple #[.int .i64 0, .bool false]) ∧ Below w.heap.size w w' := by
  have hb1 := below_alloc' w (.cells #[.int .i64 c, .int .i64 q] 30)
  have hm := (h.below hb1).at
  clear h
  go_enter Tryd.func20, Tryd.ntmps20
  go_wp2_with fail
  refine hm.mono ?_
  rintro e w1 ⟨rfl, rfl⟩
  clear hm
  go_wp2_with fail
  exact bodyPost_ret (v := .tuple #[.int .i64 0, .bool false]) (by simp [results, Tryd.results20, go_sem]) rfl ⟨rfl, hb1⟩

set_option maxRecDepth 20000 in
set_option maxHeartbeats 1000000 in
theorem behind_no {v : Value} {w : World} (h : NoS v w) (i m : Int) : Calls Tryd.prog 16 #[v, .int .i64 i, .int .i64 m] w fun e w' => e = .returned (.tuple #[.slice none 0 0, .bool false]) ∧ Below w.heap.size w w' := by
  have hm := h.at
  clear h
  go_enter Tryd.func16, Tryd.ntmps16
  go_wp2_with fail
  refine hm.mono ?_
  rintro e w1 ⟨rfl, rfl⟩
  clear hm
  go_wp2_with fail
  exact bodyPost_ret (v := .tuple #[.slice none 0 0, .bool false]) (by simp [results, Tryd.results16, go_sem]) rfl ⟨rfl, Below.refl _ _⟩

set_option maxRecDepth 20000 in
set_option maxHeartbeats 1000000 in
theorem of_no {v : Value} {w : World} (h : NoS v w) (k : Nat) (i : Int) : Calls Tryd.prog 23 #[v, .agg #[.int .u8 (bt (k) 0), .int .u8 (bt (k) 1), .int .u8 (bt (k) 2), .int .u8 (bt (k) 3), .int .u8 (bt (k) 4), .int .u8 (bt (k) 5), .int .u8 (bt (k) 6), .int .u8 (bt (k) 7)], .int .i64 i] w fun e w' => e = .returned (.tuple #[.string ⟨#[]⟩, .bool false]) ∧ Below w.heap.size w w' := by
  have hb1 := below_alloc' w (.cells #[.int .u8 (bt (k) 0), .int .u8 (bt (k) 1), .int .u8 (bt (k) 2), .int .u8 (bt (k) 3), .int .u8 (bt (k) 4), .int .u8 (bt (k) 5), .int .u8 (bt (k) 6), .int .u8 (bt (k) 7)] 28)
  have hm := (h.below hb1).at
  clear h
  go_enter Tryd.func23, Tryd.ntmps23
  go_wp2_with fail
  refine hm.mono ?_
  rintro e w1 ⟨rfl, rfl⟩
  clear hm
  go_wp2_with fail
  exact bodyPost_ret (v := .tuple #[.string ⟨#[]⟩, .bool false]) (by simp [results, Tryd.results23, go_sem]) rfl ⟨rfl, hb1⟩

set_option maxRecDepth 20000 in
set_option maxHeartbeats 1000000 in
theorem clone_no {v : Value} {w : World} (h : NoS v w) : Calls Tryd.prog 30 #[v] w fun e w' => e = .returned (.pointer none) ∧ Below w.heap.size w w' := by
  have hm := h.at
  clear h
  go_enter Tryd.func30, Tryd.ntmps30
  go_wp2_with fail
  refine hm.mono ?_
  rintro e w1 ⟨rfl, rfl⟩
  clear hm
  go_wp2_with fail
  go_ret
  exact ⟨rfl, Below.refl _ _⟩

set_option maxRecDepth 20000 in
set_option maxHeartbeats 1000000 in
theorem top_no {v : Value} {w : World} (h : NoS v w) (k : Nat) : Calls Tryd.prog 29 #[v, .agg #[.int .u8 (bt (k) 0), .int .u8 (bt (k) 1), .int .u8 (bt (k) 2), .int .u8 (bt (k) 3), .int .u8 (bt (k) 4), .int .u8 (bt (k) 5), .int .u8 (bt (k) 6), .int .u8 (bt (k) 7)]] w fun e w' => e = .returned (.agg #[.int .u8 0, .int .u8 0, .int .u8 0, .int .u8 0, .int .u8 0, .int .u8 0, .int .u8 0, .int .u8 0, .int .i64 0, .string ⟨#[]⟩]) ∧ Below w.heap.size w w' := by
  have hb1 := below_alloc' w (.cells #[.int .u8 (bt (k) 0), .int .u8 (bt (k) 1), .int .u8 (bt (k) 2), .int .u8 (bt (k) 3), .int .u8 (bt (k) 4), .int .u8 (bt (k) 5), .int .u8 (bt (k) 6), .int .u8 (bt (k) 7)] 28)
  have hb2 := hb1.trans ((below_alloc' (w.alloc (.cells #[.int .u8 (bt (k) 0), .int .u8 (bt (k) 1), .int .u8 (bt (k) 2), .int .u8 (bt (k) 3), .int .u8 (bt (k) 4), .int .u8 (bt (k) 5), .int .u8 (bt (k) 6), .int .u8 (bt (k) 7)] 28)) (.cells #[.int .u8 0, .int .u8 0, .int .u8 0, .int .u8 0, .int .u8 0, .int .u8 0, .int .u8 0, .int .u8 0, .int .i64 0, .string ⟨#[]⟩] 53)).mono hb1.size)
  have hm := (h.below hb2).at
  have hs : (w.alloc (.cells #[.int .u8 (bt (k) 0), .int .u8 (bt (k) 1), .int .u8 (bt (k) 2), .int .u8 (bt (k) 3), .int .u8 (bt (k) 4), .int .u8 (bt (k) 5), .int .u8 (bt (k) 6), .int .u8 (bt (k) 7)] 28)).heap.size = w.heap.size + 1 := by simp
  have hA : At 53 ((w.alloc (.cells #[.int .u8 (bt (k) 0), .int .u8 (bt (k) 1), .int .u8 (bt (k) 2), .int .u8 (bt (k) 3), .int .u8 (bt (k) 4), .int .u8 (bt (k) 5), .int .u8 (bt (k) 6), .int .u8 (bt (k) 7)] 28)).alloc (.cells #[.int .u8 0, .int .u8 0, .int .u8 0, .int .u8 0, .int .u8 0, .int .u8 0, .int .u8 0, .int .u8 0, .int .i64 0, .string ⟨#[]⟩] 53)) (w.heap.size + 1) #[.int .u8 0, .int .u8 0, .int .u8 0, .int .u8 0, .int .u8 0, .int .u8 0, .int .u8 0, .int .u8 0, .int .i64 0, .string ⟨#[]⟩] := by rw [← hs]; exact At.new _ _ _
  clear h
  go_enter Tryd.func29, Tryd.ntmps29
  go_wp2_with fail
  refine hm.mono ?_
  rintro e w1 ⟨rfl, rfl⟩
  clear hm
  go_wp2_with fail
  exact bodyPost_ret (results_cell_row rfl _ _ (w.heap.size + 1) _ _ _ _ rfl hA Tryd.underlying53 rfl infoCe) rfl ⟨rfl, hb2⟩

set_option maxRecDepth 20000 in
set_option maxHeartbeats 1000000 in
theorem clean_no {v : Value} {w : World} (h : NoS v w) (k : Nat) : Calls Tryd.prog 26 #[v, .agg #[.int .u8 (bt (k) 0), .int .u8 (bt (k) 1), .int .u8 (bt (k) 2), .int .u8 (bt (k) 3), .int .u8 (bt (k) 4), .int .u8 (bt (k) 5), .int .u8 (bt (k) 6), .int .u8 (bt (k) 7)]] w fun e w' => e = .returned (.agg #[.int .u8 0, .int .u8 0, .int .u8 0, .int .u8 0, .int .u8 0, .int .u8 0, .int .u8 0, .int .u8 0, .int .i64 0, .string ⟨#[]⟩]) ∧ Below w.heap.size w w' := by
  have hb1 := below_alloc' w (.cells #[.int .u8 (bt (k) 0), .int .u8 (bt (k) 1), .int .u8 (bt (k) 2), .int .u8 (bt (k) 3), .int .u8 (bt (k) 4), .int .u8 (bt (k) 5), .int .u8 (bt (k) 6), .int .u8 (bt (k) 7)] 28)
  have hb2 := hb1.trans ((below_alloc' (w.alloc (.cells #[.int .u8 (bt (k) 0), .int .u8 (bt (k) 1), .int .u8 (bt (k) 2), .int .u8 (bt (k) 3), .int .u8 (bt (k) 4), .int .u8 (bt (k) 5), .int .u8 (bt (k) 6), .int .u8 (bt (k) 7)] 28)) (.cells #[.int .u8 0, .int .u8 0, .int .u8 0, .int .u8 0, .int .u8 0, .int .u8 0, .int .u8 0, .int .u8 0, .int .i64 0, .string ⟨#[]⟩] 53)).mono hb1.size)
  have hm := (h.below hb2).at
  have hs : (w.alloc (.cells #[.int .u8 (bt (k) 0), .int .u8 (bt (k) 1), .int .u8 (bt (k) 2), .int .u8 (bt (k) 3), .int .u8 (bt (k) 4), .int .u8 (bt (k) 5), .int .u8 (bt (k) 6), .int .u8 (bt (k) 7)] 28)).heap.size = w.heap.size + 1 := by simp
  have hA : At 53 ((w.alloc (.cells #[.int .u8 (bt (k) 0), .int .u8 (bt (k) 1), .int .u8 (bt (k) 2), .int .u8 (bt (k) 3), .int .u8 (bt (k) 4), .int .u8 (bt (k) 5), .int .u8 (bt (k) 6), .int .u8 (bt (k) 7)] 28)).alloc (.cells #[.int .u8 0, .int .u8 0, .int .u8 0, .int .u8 0, .int .u8 0, .int .u8 0, .int .u8 0, .int .u8 0, .int .i64 0, .string ⟨#[]⟩] 53)) (w.heap.size + 1) #[.int .u8 0, .int .u8 0, .int .u8 0, .int .u8 0, .int .u8 0, .int .u8 0, .int .u8 0, .int .u8 0, .int .i64 0, .string ⟨#[]⟩] := by rw [← hs]; exact At.new _ _ _
  clear h
  go_enter Tryd.func26, Tryd.ntmps26
  go_wp2_with fail
  refine hm.mono ?_
  rintro e w1 ⟨rfl, rfl⟩
  clear hm
  go_wp2_with fail
  exact bodyPost_ret (results_cell_row rfl _ _ (w.heap.size + 1) _ _ _ _ rfl hA Tryd.underlying53 rfl infoCe) rfl ⟨rfl, hb2⟩

set_option maxRecDepth 20000 in
set_option maxHeartbeats 1000000 in
theorem table_no {v : Value} {w : World} (h : NoS v w) : Calls Tryd.prog 14 #[v] w fun e w' => e = .returned (.agg #[.int .i64 0, .int .i64 0, .slice none 0 0, .slice none 0 0]) ∧ Below w.heap.size w w' := by
  have hb1 := below_alloc' w (.cells #[.int .i64 0, .int .i64 0, .slice none 0 0, .slice none 0 0] 25)
  have hm := (h.below hb1).at
  have hA : At 25 (w.alloc (.cells #[.int .i64 0, .int .i64 0, .slice none 0 0, .slice none 0 0] 25)) (w.heap.size) #[.int .i64 0, .int .i64 0, .slice none 0 0, .slice none 0 0] := by exact At.new _ _ _
  clear h
  go_enter Tryd.func14, Tryd.ntmps14
  go_wp2_with fail
  refine hm.mono ?_
  rintro e w1 ⟨rfl, rfl⟩
  clear hm
  go_wp2_with fail
  exact bodyPost_ret (results_cell_row rfl _ _ (w.heap.size) _ _ _ _ rfl hA Tryd.underlying25 rfl infoTb) rfl ⟨rfl, hb1⟩

set_option maxRecDepth 20000 in
set_option maxHeartbeats 1000000 in
theorem whole_no {v : Value} {w : World} (h : NoS v w) : Calls Tryd.prog 35 #[v] w fun e w' => e = .returned (.agg #[.int .i64 0, .int .i64 0, .slice none 0 0, .slice none 0 0]) ∧ Below w.heap.size w w' := by
  have hb1 := below_alloc' w (.cells #[.int .i64 0, .int .i64 0, .slice none 0 0, .slice none 0 0] 25)
  have hm := (h.below hb1).at
  have hA : At 25 (w.alloc (.cells #[.int .i64 0, .int .i64 0, .slice none 0 0, .slice none 0 0] 25)) (w.heap.size) #[.int .i64 0, .int .i64 0, .slice none 0 0, .slice none 0 0] := by exact At.new _ _ _
  clear h
  go_enter Tryd.func35, Tryd.ntmps35
  go_wp2_with fail
  refine hm.mono ?_
  rintro e w1 ⟨rfl, rfl⟩
  clear hm
  go_wp2_with fail
  exact bodyPost_ret (results_cell_row rfl _ _ (w.heap.size) _ _ _ _ rfl hA Tryd.underlying25 rfl infoTb) rfl ⟨rfl, hb1⟩

set_option maxRecDepth 20000 in
set_option maxHeartbeats 1000000 in
theorem next_no {v : Value} {w : World} (h : NoS v w) (ep : Int) (k : Nat) (vs : ByteArray) (c q : Int) : Calls Tryd.prog 40 #[v, .int .i64 ep, .agg #[.int .u8 (bt (k) 0), .int .u8 (bt (k) 1), .int .u8 (bt (k) 2), .int .u8 (bt (k) 3), .int .u8 (bt (k) 4), .int .u8 (bt (k) 5), .int .u8 (bt (k) 6), .int .u8 (bt (k) 7)], .string vs, .agg #[.int .i64 c, .int .i64 q]] w fun e w' => e = .returned (.tuple #[.agg #[.int .i64 0, .int .i64 0, .int .u8 0, .int .u8 0, .int .u8 0, .int .u8 0, .int .u8 0, .int .u8 0, .int .u8 0, .int .u8 0, .int .i64 0, .string ⟨#[]⟩, .int .i64 0, .int .i64 0], .int .i64 6]) ∧ Below w.heap.size w w' := by
  have hb1 := below_alloc' w (.cells #[.int .u8 (bt (k) 0), .int .u8 (bt (k) 1), .int .u8 (bt (k) 2), .int .u8 (bt (k) 3), .int .u8 (bt (k) 4), .int .u8 (bt (k) 5), .int .u8 (bt (k) 6), .int .u8 (bt (k) 7)] 28)
  have hb2 := hb1.trans ((below_alloc' (w.alloc (.cells #[.int .u8 (bt (k) 0), .int .u8 (bt (k) 1), .int .u8 (bt (k) 2), .int .u8 (bt (k) 3), .int .u8 (bt (k) 4), .int .u8 (bt (k) 5), .int .u8 (bt (k) 6), .int .u8 (bt (k) 7)] 28)) (.cells #[.int .i64 c, .int .i64 q] 30)).mono hb1.size)
  have hb3 := hb2.trans ((below_alloc' ((w.alloc (.cells #[.int .u8 (bt (k) 0), .int .u8 (bt (k) 1), .int .u8 (bt (k) 2), .int .u8 (bt (k) 3), .int .u8 (bt (k) 4), .int .u8 (bt (k) 5), .int .u8 (bt (k) 6), .int .u8 (bt (k) 7)] 28)).alloc (.cells #[.int .i64 c, .int .i64 q] 30)) (.cells #[.int .i64 0, .int .i64 0, .int .u8 0, .int .u8 0, .int .u8 0, .int .u8 0, .int .u8 0, .int .u8 0, .int .u8 0, .int .u8 0, .int .i64 0, .string ⟨#[]⟩, .int .i64 0, .int .i64 0] 64)).mono hb2.size)
  have hm := (h.below hb3).at
  have hs : ((w.alloc (.cells #[.int .u8 (bt (k) 0), .int .u8 (bt (k) 1), .int .u8 (bt (k) 2), .int .u8 (bt (k) 3), .int .u8 (bt (k) 4), .int .u8 (bt (k) 5), .int .u8 (bt (k) 6), .int .u8 (bt (k) 7)] 28)).alloc (.cells #[.int .i64 c, .int .i64 q] 30)).heap.size = w.heap.size + 2 := by simp
  have hA : At 64 (((w.alloc (.cells #[.int .u8 (bt (k) 0), .int .u8 (bt (k) 1), .int .u8 (bt (k) 2), .int .u8 (bt (k) 3), .int .u8 (bt (k) 4), .int .u8 (bt (k) 5), .int .u8 (bt (k) 6), .int .u8 (bt (k) 7)] 28)).alloc (.cells #[.int .i64 c, .int .i64 q] 30)).alloc (.cells #[.int .i64 0, .int .i64 0, .int .u8 0, .int .u8 0, .int .u8 0, .int .u8 0, .int .u8 0, .int .u8 0, .int .u8 0, .int .u8 0, .int .i64 0, .string ⟨#[]⟩, .int .i64 0, .int .i64 0] 64)) (w.heap.size + 2) #[.int .i64 0, .int .i64 0, .int .u8 0, .int .u8 0, .int .u8 0, .int .u8 0, .int .u8 0, .int .u8 0, .int .u8 0, .int .u8 0, .int .i64 0, .string ⟨#[]⟩, .int .i64 0, .int .i64 0] := by rw [← hs]; exact At.new _ _ _
  clear h
  go_enter Tryd.func40, Tryd.ntmps40
  go_wp2_with fail
  refine hm.mono ?_
  rintro e w1 ⟨rfl, rfl⟩
  clear hm
  go_wp2_with fail
  exact bodyPost_ret (results_row_tmp rfl _ _ (w.heap.size + 2) _ _ _ rfl hA Tryd.underlying64 rfl infoRc) rfl ⟨rfl, hb3⟩

end Go.Proofs.YtnbgdkdnlfomeaaDoor.M
