/-
  Own text: the contract of the last block and its end.
-/
import Derived.Test.YtphdbpljgilcgaaDoorGBytes
import Derived.Laws.CopyOwn
import Derived.Deep.RegionHeld
import Derived.Deep.MidRow
namespace Go.Proofs.YtphdbpljgilcgaaDoor.M
open Go.ChangeShapes Go.WideShapes Go.ChangeAt Go.RowKit

theorem ArrI.range {t : TypeId} {k : IntKind} {w : World} {g : Nat} {xs : List Int} (h : ArrI t k w g xs) : w.rangeAt g 0 (xs.map (.int k)) := by
  intro j v hj
  have := cell_of_row w g j _ _ _ h
  rw [Nat.zero_add, this, nums, List.getElem?_toArray]
  exact hj

/-- The arrays lie in their blocks, and what was there is as it was. -/
def Hold (w : World) (l : List (TypeId × IntKind × Nat × List Int)) (W : World) : Prop := (∀ a ∈ l, ArrI a.1 a.2.1 W a.2.2.1 a.2.2.2) ∧ Below w.heap.size w W

theorem Hold.at {w : World} {l : List (TypeId × IntKind × Nat × List Int)} {W : World} (h : Hold w l W) (i : Nat) {t : TypeId} {k : IntKind} {g : Nat} {xs : List Int} (hi : l[i]? = some (t, k, g, xs)) : ArrI t k W g xs := h.1 _ (List.mem_of_getElem? hi)

theorem Hold.drew {w : World} {l : List (TypeId × IntKind × Nat × List Int)} {W : World} (h : Hold w l W) : Hold w l W.drew := ⟨fun a ha => (h.1 a ha).drew, h.2.drew⟩

theorem Hold.below {w : World} {l : List (TypeId × IntKind × Nat × List Int)} {W W' : World} (h : Hold w l W) (hb : Below W.heap.size W W') : Hold w l W' := ⟨fun a ha => (h.1 a ha).below hb, h.2.trans (hb.mono h.2.size)⟩

theorem Hold.nil {w W : World} (hb : Below w.heap.size w W) : Hold w [] W := ⟨fun _ h => (by cases h), hb⟩

theorem Hold.cons {w W : World} {l : List (TypeId × IntKind × Nat × List Int)} {t : TypeId} {k : IntKind} {g : Nat} {xs : List Int} (h : ArrI t k W g xs) (hl : Hold w l W) : Hold w ((t, k, g, xs) :: l) W :=
  ⟨fun a ha => by rcases List.mem_cons.1 ha with rfl | h2; exact h; exact hl.1 a h2, hl.2⟩

theorem hold_call {w : World} {l : List (TypeId × IntKind × Nat × List Int)} {P : Program} {f : FuncId} {args : Array Value} {v : Value} {W : World} (hS : Hold w l W) (c : Calls P f args W fun e w' => e = .returned v ∧ Below W.heap.size W w') : Calls P f args W fun e w' => e = .returned v ∧ Hold w l w' :=
  c.mono (by rintro e w' ⟨rfl, hb⟩; exact ⟨rfl, hS.below hb⟩)

theorem four_new (w : World) (xs : List Int) :
    ArrI 76 .u32 ((((w.alloc (.cells (nums .u32 xs) 76)).alloc (.cells #[.int .u32 0, .int .u32 0, .int .u32 0, .int .u32 0] 76)).alloc (.cells #[.int .u32 0, .int .u32 0, .int .u32 0, .int .u32 0] 76)).alloc (.cells (nums .u8 (List.replicate 16 0)) 22)) w.heap.size xs ∧
    ArrI 76 .u32 ((((w.alloc (.cells (nums .u32 xs) 76)).alloc (.cells #[.int .u32 0, .int .u32 0, .int .u32 0, .int .u32 0] 76)).alloc (.cells #[.int .u32 0, .int .u32 0, .int .u32 0, .int .u32 0] 76)).alloc (.cells (nums .u8 (List.replicate 16 0)) 22)) (w.heap.size + 1) [0, 0, 0, 0] ∧
    ArrI 76 .u32 ((((w.alloc (.cells (nums .u32 xs) 76)).alloc (.cells #[.int .u32 0, .int .u32 0, .int .u32 0, .int .u32 0] 76)).alloc (.cells #[.int .u32 0, .int .u32 0, .int .u32 0, .int .u32 0] 76)).alloc (.cells (nums .u8 (List.replicate 16 0)) 22)) (w.heap.size + 1 + 1) [0, 0, 0, 0] ∧
    ArrI 22 .u8 ((((w.alloc (.cells (nums .u32 xs) 76)).alloc (.cells #[.int .u32 0, .int .u32 0, .int .u32 0, .int .u32 0] 76)).alloc (.cells #[.int .u32 0, .int .u32 0, .int .u32 0, .int .u32 0] 76)).alloc (.cells (nums .u8 (List.replicate 16 0)) 22)) (w.heap.size + 1 + 1 + 1) (List.replicate 16 0) ∧
    Below w.heap.size w ((((w.alloc (.cells (nums .u32 xs) 76)).alloc (.cells #[.int .u32 0, .int .u32 0, .int .u32 0, .int .u32 0] 76)).alloc (.cells #[.int .u32 0, .int .u32 0, .int .u32 0, .int .u32 0] 76)).alloc (.cells (nums .u8 (List.replicate 16 0)) 22)) := by
  obtain ⟨hA, hZ, hb⟩ := two_arr w xs 76
  generalize hW : (w.alloc (.cells (nums .u32 xs) 76)).alloc (.cells #[.int .u32 0, .int .u32 0, .int .u32 0, .int .u32 0] 76) = W1 at hA hZ hb ⊢
  have s1 : W1.heap.size = w.heap.size + 1 + 1 := by rw [← hW]; simp
  have h2 : ArrI 76 .u32 (W1.alloc (.cells #[.int .u32 0, .int .u32 0, .int .u32 0, .int .u32 0] 76)) _ _ := ArrI.new 76 .u32 W1 [0, 0, 0, 0]
  rw [s1] at h2
  have s2 : (W1.alloc (.cells #[.int .u32 0, .int .u32 0, .int .u32 0, .int .u32 0] 76)).heap.size = w.heap.size + 1 + 1 + 1 := by rw [← hW]; simp
  have h3 : ArrI 22 .u8 ((W1.alloc (.cells #[.int .u32 0, .int .u32 0, .int .u32 0, .int .u32 0] 76)).alloc (.cells (nums .u8 (List.replicate 16 0)) 22)) _ _ := ArrI.new 22 .u8 _ (List.replicate 16 0)
  rw [s2] at h3
  exact ⟨(hA.alloc _).alloc _, (hZ.alloc _).alloc _, h2.alloc _, h3, (hb.alloc (by omega) _).alloc (by omega) _⟩

theorem results_row_row {P : Program} {fn : Func} {p q : Tmp} {ty : TypeId} (h : fn.results = #[.cell p ty, .cell q ty]) (tmps : Array Value) (w : World) (g g' : Nat) (t : TypeId) (cs ds : Array Value) (d : TypeDesc)
    (hp : tmps.getD p undef = .pointer (some ⟨g, 0, none⟩)) (hq : tmps.getD q undef = .pointer (some ⟨g', 0, none⟩)) (hg : w.heap[g]? = some (.cells cs t (0, 0))) (hg' : w.heap[g']? = some (.cells ds t (0, 0)))
    (hu : P.underlying ty = some d) (hd : (match d with | .struct _ | .array _ _ => true | _ => false) = true) (hi : (P.info? ty).map (·.size) = some cs.size) (hi' : (P.info? ty).map (·.size) = some ds.size) :
    (results fn tmps).run P w = .ok (.tuple #[.agg cs, .agg ds]) w := by
  have hp' : tmps[p]?.getD undef = .pointer (some ⟨g, 0, none⟩) := by simpa using hp
  have hq' : tmps[q]?.getD undef = .pointer (some ⟨g', 0, none⟩) := by simpa using hq
  simp [results, h, hp', hq', asAddr, run_loadVar_row w g t ty cs (0, 0) d hg hu hd hi, run_loadVar_row w g' t ty ds (0, 0) d hg' hu hd hi']

theorem results_row_tmp {P : Program} {fn : Func} {p u : Tmp} {ty : TypeId} (h : fn.results = #[.cell p ty, .tmp u]) (tmps : Array Value) (w : World) (g : Nat) (t : TypeId) (cs : Array Value) (d : TypeDesc)
    (hp : tmps.getD p undef = .pointer (some ⟨g, 0, none⟩)) (hg : w.heap[g]? = some (.cells cs t (0, 0)))
    (hu : P.underlying ty = some d) (hd : (match d with | .struct _ | .array _ _ => true | _ => false) = true) (hi : (P.info? ty).map (·.size) = some cs.size) :
    (results fn tmps).run P w = .ok (.tuple #[.agg cs, tmps.getD u undef]) w := by
  have hp' : tmps[p]?.getD undef = .pointer (some ⟨g, 0, none⟩) := by simpa using hp
  simp [results, h, hp', asAddr, run_loadVar_row w g t ty cs (0, 0) d hg hu hd hi]

theorem infoByte : (Tryd.prog.info? 5).map (·.size) = some 1 := by kernel_rfl

/-- The bytes with noughts behind them. -/
def padL (l : List Int) : List Int := l ++ List.replicate (16 - l.length) 0

theorem padL_len {l : List Int} (h : l.length ≤ 16) : (padL l).length = 16 := by simp [padL]; omega

theorem splice_pad (l : List Int) : (splice ((List.replicate 16 (0 : Int)).map (Value.int .u8)) 0 (l.map (Value.int .u8))).toArray = nums .u8 (padL l) := by
  unfold splice nums padL
  congr 1
  simp only [List.map_replicate, List.drop_replicate, List.map_append, List.length_map, List.take_zero, List.nil_append, Nat.zero_add]

theorem Rd.src {k : IntKind} {w : World} {p : Option Addr} {n c : Nat} {l : List Int} (hr : Rd k w p n c l) (h : 0 < (l.map (Value.int k)).length) : ∃ ad, p = some ad ∧ ∀ j v, (l.map (Value.int k))[j]? = some v → w.cell? (ad.add j) = some v := by
  rw [List.length_map, hr.len] at h
  obtain ⟨b, o, rfl, hc⟩ := hr.cells h
  refine ⟨_, rfl, fun j v hj => ?_⟩
  rw [List.getElem?_map] at hj
  have hj' : j < l.length := by
    rcases Nat.lt_or_ge j l.length with h | h
    · exact h
    · rw [List.getElem?_eq_none h] at hj; cases hj
  rw [Addr.add_lit, hc j (by rw [← hr.len]; exact hj')]
  rw [List.getElem?_eq_getElem hj'] at hj
  rw [List.getD_eq_getElem?_getD, List.getElem?_eq_getElem hj']
  exact hj

theorem fill_of_pad {l : List Int} (h : l.length < 16) : (padL l).set l.length 1 = fillL l := by
  unfold padL fillL
  rw [if_pos h, List.set_append_right _ _ (Nat.le_refl _), Nat.sub_self, show 16 - l.length = (15 - l.length) + 1 by omega, List.replicate_succ, List.set_cons_zero, List.append_assoc]
  rfl

theorem fill_full {l : List Int} (h : l.length = 16) : padL l = fillL l := by
  unfold padL fillL
  rw [if_neg (by omega), h]
  simp

theorem fill_len {l : List Int} (h : l.length ≤ 16) : (fillL l).length = 16 := by
  unfold fillL
  split
  · simp; omega
  · omega

theorem fill_by {l : List Int} (h : Byt l) : Byt (fillL l) := by
  unfold fillL
  split
  · intro x hx
    simp only [List.mem_append, List.mem_singleton, List.mem_replicate] at hx
    rcases hx with (hx | rfl) | ⟨_, rfl⟩
    · exact h x hx
    · decide
    · decide
  · exact h

set_option maxRecDepth 20000 in
set_option linter.unusedSimpArgs false in
set_option maxHeartbeats 2000000 in
theorem last_any (s : Nat × Nat × Nat × Nat) (p : Option Addr) (n c : Nat) (l : List Int) (w : World) (hs : Qd s) (hr : Rd .u8 w p n c l) (hn : n ≤ 16) (hby : Byt l) :
    Calls Tryd.prog 41 #[.agg (qA s), .slice p n c] w fun r w' => r = .returned (.tuple #[.agg (qA (qW (fillL l))), .agg (qA (endW s l))]) ∧ Below w.heap.size w w' := by
  obtain ⟨hA0, hZ0, hE0, hB0, hb0⟩ := four_new w (qI s)
  rw [← qA_nums, zero16] at hA0 hZ0 hE0 hB0 hb0
  have hl := hr.len
  have hcl : (l.map (Value.int .u8)).length = Nat.min n 16 := by rw [List.length_map, hl]; exact (Nat.min_eq_left hn).symm
  have h1c : ∀ v ∈ l.map (Value.int .u8), v.oneCell' = true := oneCells .u8 l
  have hpad := splice_pad l
  have hfit : 0 + (l.map (Value.int .u8)).length ≤ ((List.replicate 16 (0 : Int)).map (Value.int .u8)).length := by rw [List.length_map, List.length_map, List.length_replicate]; omega
  have hg0 : ∀ W : World, ArrI 22 .u8 W (w.heap.size + 1 + 1 + 1) (List.replicate 16 0) → W.heap[w.heap.size + 1 + 1 + 1]? = some (.cells ((List.replicate 16 (0 : Int)).map (Value.int .u8)).toArray 22 (0, 0)) := fun _ h => h
  have hi := info_nums .u32 (qI s) infoK rfl
  have hrW := hr.below hb0
  go_enter Tryd.func41, Tryd.ntmps41
  go_wp2_with (refine wpList_copy_splice rfl (.tmp 8) (.tmp 9) 27 27 rfl 5 Tryd.underlying27 infoByte _ _ _ _ _ _ rfl rfl (w.heap.size + 1 + 1 + 1) 0 _ 22 (hg0 _ hB0) (l.map (Value.int .u8)) hcl (fun h => ⟨rfl, hrW.src h⟩) hfit h1c (w.heap.size + 1 + 1 + 1) _ (Below.refl _ _) (Nat.le_refl _) ?_)
  intro w2 HG hb2
  have hB2 : ArrI 22 .u8 w2 (w.heap.size + 1 + 1 + 1) (padL l) := by
    have h1 := HG.out
    exact h1.trans (congrArg (fun a => some (Obj.cells a 22 (0, 0))) hpad)
  have hA2 := hA0.belowOf hb2 (by omega)
  have hZ2 := hZ0.belowOf hb2 (by omega)
  have hE2 := hE0.belowOf hb2 (by omega)
  have hbb2 := hb0.trans (hb2.mono (by omega))
  clear HG hb2 hA0 hZ0 hE0 hB0 hb0 hrW hpad hg0 hfit h1c
  clear hcl
  have cD := doubled_any s w2 hs
  go_wp2_with (refine wpList_load_row rfl 76 _ rfl w.heap.size rfl _ _ _ _ hA2 Tryd.underlying76 rfl hi ?_)
  refine cD.mono ?_
  rintro e w3 ⟨rfl, hb3⟩
  have hiE := info_nums .u32 (qI (dbl s)) infoK rfl
  have hZ3 := hZ2.below hb3
  have hE3 := hE2.below hb3
  have hB3 := hB2.below hb3
  have hbb3 := hbb2.trans (hb3.mono hbb2.size)
  have hE4 := hE3.setRow (qI (dbl s))
  have hZ4 := hZ3.rowOther (w.heap.size + 1 + 1) (nums .u32 (qI (dbl s))) (by omega)
  have hB4 := hB3.rowOther (w.heap.size + 1 + 1) (nums .u32 (qI (dbl s))) (by omega)
  have hbb4 := hbb3.trans (below_setRow w3 (w.heap.size + 1 + 1) (nums .u32 (qI (dbl s))) (by omega))
  have hzE : (nums .u32 [0, 0, 0, 0]).size = (nums .u32 (qI (dbl s))).size := rfl
  clear hA2 hZ2 hE2 hB2 hbb2 hb3 hZ3 hB3 hbb3 cD
  have hfl := fill_len (l := l) (by omega)
  have hfb := fill_by hby
  by_cases h16 : n < 16
  · have hd1 : (n : Int) < 16 := by omega
    have hend : Hid (endW s l = dbl (dbl s)) := by unfold Hid endW; rw [if_pos (by omega)]
    have hcell := hB4.cell (i := n) (by rw [padL_len (by omega)]; exact h16)
    have hfree := hB4.free n
    generalize (padL l).getD n 0 = old at hcell
    have hB5 := hB4.set n 1
    rw [← hl, fill_of_pad (by omega), hl] at hB5
    have hZ5 := hZ4.other (w.heap.size + 1 + 1 + 1) n (.int .u8 1) (by omega)
    have hE5 := hE4.other (w.heap.size + 1 + 1 + 1) n (.int .u8 1) (by omega)
    have hbb5 := hbb4.setCell (p := ⟨w.heap.size + 1 + 1 + 1, n, none⟩) (show w.heap.size ≤ w.heap.size + 1 + 1 + 1 by omega) (.int .u8 1)
    have cE := fun W => doubled_any (dbl s) W (dbl_lt hs)
    have hiE2 := info_nums .u32 (qI (dbl (dbl s))) infoK rfl
    clear hZ4 hE4 hB4 hbb4
    go_wp2_with (first | refine wpList_store_row rfl 76 _ _ rfl (w.heap.size + 1 + 1) (nums .u32 (qI (dbl s))) rfl rfl _ _ hE3 hiE hzE (nums_one _ _) ?_ | refine wpList_load_row rfl 76 _ rfl (w.heap.size + 1 + 1) rfl _ _ _ _ hE5 Tryd.underlying76 rfl hiE ?_)
    generalize (w3.setRow (w.heap.size + 1 + 1) (nums .u32 (qI (dbl s)))).setCell ⟨w.heap.size + 1 + 1 + 1, n, none⟩ (.int .u8 1) = W4 at hB5 hZ5 hE5 hbb5 ⊢
    clear hE3 hcell hfree
    refine (cE _).mono ?_
    rintro e w4 ⟨rfl, hb4⟩
    have hB4 := hB5.below hb4
    have hZ4 := hZ5.below hb4
    have hE4 := hE5.below hb4
    have hbb4 := hbb5.trans (hb4.mono hbb5.size)
    clear hB5 hZ5 hE5 hbb5 hb4
    have hB5 := hB4.rowOther (w.heap.size + 1 + 1) (nums .u32 (qI (dbl (dbl s)))) (by omega)
    have hZ5 := hZ4.rowOther (w.heap.size + 1 + 1) (nums .u32 (qI (dbl (dbl s)))) (by omega)
    have hE5 := hE4.setRow (qI (dbl (dbl s)))
    have hbb5 := hbb4.trans (below_setRow w4 (w.heap.size + 1 + 1) (nums .u32 (qI (dbl (dbl s)))) (by omega))
    have hzF : (nums .u32 (qI (dbl s))).size = (nums .u32 (qI (dbl (dbl s)))).size := rfl
    go_wp2_with (refine wpList_store_row rfl 76 _ _ rfl (w.heap.size + 1 + 1) (nums .u32 (qI (dbl (dbl s)))) rfl rfl _ _ hE4 hiE2 hzF (nums_one _ _) ?_)
    clear hB4 hZ4 hE4 hbb4
    generalize w4.setRow (w.heap.size + 1 + 1) (nums .u32 (qI (dbl (dbl s)))) = W5 at hB5 hZ5 hE5 hbb5 ⊢
    have hiW := info_nums .u32 (qI (qW (fillL l))) infoK rfl
    have hiF := info_nums .u32 (qI (dbl (dbl s))) infoK rfl
    have hiB2 : (Tryd.prog.info? 22).map (·.size) = some ((fillL l).map (Value.int .u8)).length := by rw [List.length_map, hfl]; exact infoB
    have hiF2 : (Tryd.prog.info? 76).map (·.size) = some ((qI (dbl (dbl s))).map (Value.int .u32)).length := infoK
    have hS0 : Hold w [(22, .u8, w.heap.size + 1 + 1 + 1, fillL l), (76, .u32, w.heap.size + 1 + 1, qI (dbl (dbl s))), (76, .u32, w.heap.size + 1, [0, 0, 0, 0])] W5 := Hold.cons hB5 (Hold.cons hE5 (Hold.cons hZ5 (Hold.nil hbb5)))
    have cW := fun W hS => hold_call (w := w) (l := [(22, .u8, w.heap.size + 1 + 1 + 1, fillL l), (76, .u32, w.heap.size + 1 + 1, qI (dbl (dbl s))), (76, .u32, w.heap.size + 1, [0, 0, 0, 0])]) hS (words_any (fillL l) W hfl hfb)
    refine wp_region_held_drew (S := fun W => ∃ z : Nat × Nat × Nat × Nat, Hold w [(22, .u8, w.heap.size + 1 + 1 + 1, fillL l), (76, .u32, w.heap.size + 1 + 1, qI (dbl (dbl s))), (76, .u32, w.heap.size + 1, qI z)] W) (by kernel_rfl) ⟨(0, 0, 0, 0), hS0.drew⟩ (fun hHeld => ?_)
    clear hHeld
    have hS1 := hS0.drew
    refine wpAnyH_take (i := 0) (v := _) rfl (by kernel_rfl) (by kernel_rfl) (by kernel_rfl) (fun _ _ _ h => h) (yieldsIf_load_mid (by rfl) _ _ rfl _ _ rfl _ _ (fun _ ⟨_, h⟩ => (h.at 0 rfl).range) Tryd.underlying22 rfl hiB2) ⟨(0, 0, 0, 0), hS1⟩ ?_
    (try simp only [Act.put, List.getElem_toArray, List.getElem_cons_zero, List.getElem_cons_succ, List.setIfInBounds_toArray, List.set_cons_zero, List.set_cons_succ])
    refine wpAnyH_take (i := 2) (v := _) rfl (by kernel_rfl) (by kernel_rfl) (by kernel_rfl) (fun _ _ _ h => h) (yieldsIf_load_mid (by rfl) _ _ rfl _ _ rfl _ _ (fun _ ⟨_, h⟩ => (h.at 1 rfl).range) Tryd.underlying76 rfl hiF2) ⟨(0, 0, 0, 0), hS1⟩ ?_
    (try simp only [Act.put, List.getElem_toArray, List.getElem_cons_zero, List.getElem_cons_succ, List.setIfInBounds_toArray, List.set_cons_zero, List.set_cons_succ])
    refine wpAnyH_ready (rs := [1]) (by kernel_rfl) (by simp) (AllReadyH.cons rfl (fun K hK => ?_) AllReadyH.nil)
    go_simp
    refine (cW _ hS1).mono ?_
    rintro e w6 ⟨rfl, hS6⟩
    go_wp2_with fail
    refine hK.out _ _ ⟨(0, 0, 0, 0), hS6⟩ (fun hHeld => ?_)
    clear hK K hHeld
    (try simp only [Act.put, List.getElem_toArray, List.getElem_cons_zero, List.getElem_cons_succ, List.setIfInBounds_toArray, List.set_cons_zero, List.set_cons_succ])
    have hZ6 := hS6.at 2 rfl
    have hE6 := hS6.at 1 rfl
    have hB6 := hS6.at 0 rfl
    have hbb6 := hS6.2
    have hZ7 := hZ6.setRow (qI (qW (fillL l)))
    have hE7 := hE6.rowOther (w.heap.size + 1) (nums .u32 (qI (qW (fillL l)))) (by omega)
    have hB7 := hB6.rowOther (w.heap.size + 1) (nums .u32 (qI (qW (fillL l)))) (by omega)
    have hbb7 := hbb6.trans (below_setRow w6 (w.heap.size + 1) (nums .u32 (qI (qW (fillL l)))) (by omega))
    refine wpAnyH_ready (rs := [3]) (by kernel_rfl) (by simp) (AllReadyH.cons rfl (fun K hK => ?_) AllReadyH.nil)
    rw [if_pos (by rfl)]
    refine wp_store_row 76 _ _ rfl (w.heap.size + 1) (nums .u32 (qI (qW (fillL l)))) rfl rfl _ _ hZ6 hiW rfl (nums_one _ _) ?_
    generalize w6.setRow (w.heap.size + 1) (nums .u32 (qI (qW (fillL l)))) = w7 at hZ7 hE7 hB7 hbb7 ⊢
    refine hK.out _ _ ⟨qW (fillL l), Hold.cons hB7 (Hold.cons hE7 (Hold.cons hZ7 (Hold.nil hbb7)))⟩ (fun hHeld => ?_)
    clear hK K hHeld
    (try simp only [Act.put, List.getElem_toArray, List.getElem_cons_zero, List.getElem_cons_succ, List.setIfInBounds_toArray, List.set_cons_zero, List.set_cons_succ])
    have hE8 := hE7.setRow (qI (dbl (dbl s)))
    have hZ8 := hZ7.rowOther (w.heap.size + 1 + 1) (nums .u32 (qI (dbl (dbl s)))) (by omega)
    have hB8 := hB7.rowOther (w.heap.size + 1 + 1) (nums .u32 (qI (dbl (dbl s)))) (by omega)
    have hbb8 := hbb7.trans (below_setRow w7 (w.heap.size + 1 + 1) (nums .u32 (qI (dbl (dbl s)))) (by omega))
    refine wpAnyH_ready (rs := [4]) (by kernel_rfl) (by simp) (AllReadyH.cons rfl (fun K hK => ?_) AllReadyH.nil)
    rw [if_pos (by rfl)]
    refine wp_store_row 76 _ _ rfl (w.heap.size + 1 + 1) (nums .u32 (qI (dbl (dbl s)))) rfl rfl _ _ hE7 hiF rfl (nums_one _ _) ?_
    generalize w7.setRow (w.heap.size + 1 + 1) (nums .u32 (qI (dbl (dbl s)))) = w8 at hZ8 hE8 hB8 hbb8 ⊢
    refine hK.out _ _ ⟨qW (fillL l), Hold.cons hB8 (Hold.cons hE8 (Hold.cons hZ8 (Hold.nil hbb8)))⟩ (fun hHeld => ?_)
    clear hK K hHeld
    (try simp only [Act.put, List.getElem_toArray, List.getElem_cons_zero, List.getElem_cons_succ, List.setIfInBounds_toArray, List.set_cons_zero, List.set_cons_succ])
    refine wpAnyH_done (by kernel_rfl) ?_ _
    go_wp2_with fail
    exact bodyPost_ret (results_row_row (p := 4) (q := 5) rfl _ _ (w.heap.size + 1) (w.heap.size + 1 + 1) _ _ _ _ rfl rfl hZ8 hE8 Tryd.underlying76 rfl hiW hiF) rfl ⟨by rw [hend.out]; rfl, hbb8⟩
  · obtain rfl : n = 16 := by omega
    have hend : Hid (endW s l = dbl s) := by unfold Hid endW; rw [if_neg (by omega)]
    rw [fill_full hl] at hB4
    go_wp2_with (refine wpList_store_row rfl 76 _ _ rfl (w.heap.size + 1 + 1) (nums .u32 (qI (dbl s))) rfl rfl _ _ hE3 hiE hzE (nums_one _ _) ?_)
    generalize w3.setRow (w.heap.size + 1 + 1) (nums .u32 (qI (dbl s))) = W5 at hB4 hZ4 hE4 hbb4 ⊢
    have hB5 := hB4
    have hZ5 := hZ4
    have hE5 := hE4
    have hbb5 := hbb4
    clear hB4 hZ4 hE4 hbb4 hE3
    have hiW := info_nums .u32 (qI (qW (fillL l))) infoK rfl
    have hiF := info_nums .u32 (qI (dbl s)) infoK rfl
    have hiB2 : (Tryd.prog.info? 22).map (·.size) = some ((fillL l).map (Value.int .u8)).length := by rw [List.length_map, hfl]; exact infoB
    have hiF2 : (Tryd.prog.info? 76).map (·.size) = some ((qI (dbl s)).map (Value.int .u32)).length := infoK
    have hS0 : Hold w [(22, .u8, w.heap.size + 1 + 1 + 1, fillL l), (76, .u32, w.heap.size + 1 + 1, qI (dbl s)), (76, .u32, w.heap.size + 1, [0, 0, 0, 0])] W5 := Hold.cons hB5 (Hold.cons hE5 (Hold.cons hZ5 (Hold.nil hbb5)))
    have cW := fun W hS => hold_call (w := w) (l := [(22, .u8, w.heap.size + 1 + 1 + 1, fillL l), (76, .u32, w.heap.size + 1 + 1, qI (dbl s)), (76, .u32, w.heap.size + 1, [0, 0, 0, 0])]) hS (words_any (fillL l) W hfl hfb)
    refine wp_region_held_drew (S := fun W => ∃ z : Nat × Nat × Nat × Nat, Hold w [(22, .u8, w.heap.size + 1 + 1 + 1, fillL l), (76, .u32, w.heap.size + 1 + 1, qI (dbl s)), (76, .u32, w.heap.size + 1, qI z)] W) (by kernel_rfl) ⟨(0, 0, 0, 0), hS0.drew⟩ (fun hHeld => ?_)
    clear hHeld
    have hS1 := hS0.drew
    refine wpAnyH_take (i := 0) (v := _) rfl (by kernel_rfl) (by kernel_rfl) (by kernel_rfl) (fun _ _ _ h => h) (yieldsIf_load_mid (by rfl) _ _ rfl _ _ rfl _ _ (fun _ ⟨_, h⟩ => (h.at 0 rfl).range) Tryd.underlying22 rfl hiB2) ⟨(0, 0, 0, 0), hS1⟩ ?_
    (try simp only [Act.put, List.getElem_toArray, List.getElem_cons_zero, List.getElem_cons_succ, List.setIfInBounds_toArray, List.set_cons_zero, List.set_cons_succ])
    refine wpAnyH_take (i := 2) (v := _) rfl (by kernel_rfl) (by kernel_rfl) (by kernel_rfl) (fun _ _ _ h => h) (yieldsIf_load_mid (by rfl) _ _ rfl _ _ rfl _ _ (fun _ ⟨_, h⟩ => (h.at 1 rfl).range) Tryd.underlying76 rfl hiF2) ⟨(0, 0, 0, 0), hS1⟩ ?_
    (try simp only [Act.put, List.getElem_toArray, List.getElem_cons_zero, List.getElem_cons_succ, List.setIfInBounds_toArray, List.set_cons_zero, List.set_cons_succ])
    refine wpAnyH_ready (rs := [1]) (by kernel_rfl) (by simp) (AllReadyH.cons rfl (fun K hK => ?_) AllReadyH.nil)
    go_simp
    refine (cW _ hS1).mono ?_
    rintro e w6 ⟨rfl, hS6⟩
    go_wp2_with fail
    refine hK.out _ _ ⟨(0, 0, 0, 0), hS6⟩ (fun hHeld => ?_)
    clear hK K hHeld
    (try simp only [Act.put, List.getElem_toArray, List.getElem_cons_zero, List.getElem_cons_succ, List.setIfInBounds_toArray, List.set_cons_zero, List.set_cons_succ])
    have hZ6 := hS6.at 2 rfl
    have hE6 := hS6.at 1 rfl
    have hB6 := hS6.at 0 rfl
    have hbb6 := hS6.2
    have hZ7 := hZ6.setRow (qI (qW (fillL l)))
    have hE7 := hE6.rowOther (w.heap.size + 1) (nums .u32 (qI (qW (fillL l)))) (by omega)
    have hB7 := hB6.rowOther (w.heap.size + 1) (nums .u32 (qI (qW (fillL l)))) (by omega)
    have hbb7 := hbb6.trans (below_setRow w6 (w.heap.size + 1) (nums .u32 (qI (qW (fillL l)))) (by omega))
    refine wpAnyH_ready (rs := [3]) (by kernel_rfl) (by simp) (AllReadyH.cons rfl (fun K hK => ?_) AllReadyH.nil)
    rw [if_pos (by rfl)]
    refine wp_store_row 76 _ _ rfl (w.heap.size + 1) (nums .u32 (qI (qW (fillL l)))) rfl rfl _ _ hZ6 hiW rfl (nums_one _ _) ?_
    generalize w6.setRow (w.heap.size + 1) (nums .u32 (qI (qW (fillL l)))) = w7 at hZ7 hE7 hB7 hbb7 ⊢
    refine hK.out _ _ ⟨qW (fillL l), Hold.cons hB7 (Hold.cons hE7 (Hold.cons hZ7 (Hold.nil hbb7)))⟩ (fun hHeld => ?_)
    clear hK K hHeld
    (try simp only [Act.put, List.getElem_toArray, List.getElem_cons_zero, List.getElem_cons_succ, List.setIfInBounds_toArray, List.set_cons_zero, List.set_cons_succ])
    have hE8 := hE7.setRow (qI (dbl s))
    have hZ8 := hZ7.rowOther (w.heap.size + 1 + 1) (nums .u32 (qI (dbl s))) (by omega)
    have hB8 := hB7.rowOther (w.heap.size + 1 + 1) (nums .u32 (qI (dbl s))) (by omega)
    have hbb8 := hbb7.trans (below_setRow w7 (w.heap.size + 1 + 1) (nums .u32 (qI (dbl s))) (by omega))
    refine wpAnyH_ready (rs := [4]) (by kernel_rfl) (by simp) (AllReadyH.cons rfl (fun K hK => ?_) AllReadyH.nil)
    rw [if_pos (by rfl)]
    refine wp_store_row 76 _ _ rfl (w.heap.size + 1 + 1) (nums .u32 (qI (dbl s))) rfl rfl _ _ hE7 hiF rfl (nums_one _ _) ?_
    generalize w7.setRow (w.heap.size + 1 + 1) (nums .u32 (qI (dbl s))) = w8 at hZ8 hE8 hB8 hbb8 ⊢
    refine hK.out _ _ ⟨qW (fillL l), Hold.cons hB8 (Hold.cons hE8 (Hold.cons hZ8 (Hold.nil hbb8)))⟩ (fun hHeld => ?_)
    clear hK K hHeld
    (try simp only [Act.put, List.getElem_toArray, List.getElem_cons_zero, List.getElem_cons_succ, List.setIfInBounds_toArray, List.set_cons_zero, List.set_cons_succ])
    refine wpAnyH_done (by kernel_rfl) ?_ _
    go_wp2_with fail
    exact bodyPost_ret (results_row_row (p := 4) (q := 5) rfl _ _ (w.heap.size + 1) (w.heap.size + 1 + 1) _ _ _ _ rfl rfl hZ8 hE8 Tryd.underlying76 rfl hiW hiF) rfl ⟨by rw [hend.out]; rfl, hbb8⟩

end Go.Proofs.YtphdbpljgilcgaaDoor.M
