/-
  Own text: contracts of links' isPlace, isLink, Send, Wall.
-/
import Derived.Test.YtmnipfdcbmamnaaNDrop
namespace Go.Proofs.Ytmnipfdcbmamnaa.M
open Go.ChangeShapes Go.WideShapes Go.ChangeAt Go.RowKit Go.ChangeMaps Go.MapKept Go.Maps

variable {Z : Nat → Prop}

/-- May this be a place? -/
def isPl (x : Int) : Bool := decide (0 ≤ x ∧ x < 32)

/-- May this be a link? -/
def isLk (x y : Int) : Bool := isPl x && (isPl y && decide (x ≠ y))

set_option maxRecDepth 20000 in
theorem isPlace_any (x : Int) (w : World) : Calls Try.prog 56 #[.int .i64 x] w fun e w' => e = .returned (.bool (isPl x)) ∧ Below w.heap.size w w' := by
  have hr : isPl x = (decide (0 ≤ x) && decide (x < 32)) := by
    unfold isPl
    by_cases h1 : 0 ≤ x <;> by_cases h2 : x < 32 <;> simp [h1, h2]
  rw [hr]
  by_cases h1 : 0 ≤ x
  · have d1 : decide (0 ≤ x) = true := decide_eq_true h1
    rw [d1, Bool.true_and]
    generalize hb2 : decide (x < 32) = b2 at *
    go_enter Try.func56, Try.ntmps56
    go_wp2_with fail
    go_ret
    exact ⟨rfl, Below.refl _ _⟩
  · have d1 : decide (0 ≤ x) = false := decide_eq_false h1
    rw [d1, Bool.false_and]
    go_enter Try.func56, Try.ntmps56
    go_wp2_with fail
    go_ret
    exact ⟨rfl, Below.refl _ _⟩

set_option maxRecDepth 20000 in
set_option maxHeartbeats 2000000 in
theorem isLink_any (x y : Int) (w : World) : Calls Try.prog 46 #[.agg #[.int .i64 x, .int .i64 y]] w fun e w' => e = .returned (.bool (isLk x y)) ∧ Below w.heap.size w w' := by
  have hba := below_alloc w (.cells #[.int .i64 x, .int .i64 y] 33)
  have hA := At.new 33 w #[.int .i64 x, .int .i64 y]
  obtain ⟨a0, a1⟩ := hA.two
  have hp := isPlace_any x (w.alloc (.cells #[.int .i64 x, .int .i64 y] 33))
  unfold isLk
  cases hpx : isPl x
  · rw [hpx] at hp
    rw [Bool.false_and]
    go_enter Try.func46, Try.ntmps46
    go_wp2_with fail
    refine hp.mono ?_
    rintro o w1 ⟨rfl, hw⟩
    clear hp
    go_wp2_with fail
    go_ret
    exact ⟨rfl, hba.trans (hw.mono hba.size)⟩
  · rw [hpx] at hp
    rw [Bool.true_and]
    go_enter Try.func46, Try.ntmps46
    go_wp2_with fail
    refine hp.mono ?_
    rintro o w1 ⟨rfl, hw⟩
    clear hp
    have hA1 := hA.below hw
    have hb1 := hba.trans (hw.mono hba.size)
    have hp := isPlace_any y w1
    clear a0 a1 hA hba
    obtain ⟨a0, a1⟩ := hA1.two
    cases hpy : isPl y
    · rw [hpy] at hp
      go_wp2_with fail
      refine hp.mono ?_
      rintro o w2 ⟨rfl, hw2⟩
      clear hp
      have hb2 := hb1.trans (hw2.mono hb1.size)
      go_wp2_with fail
      go_ret
      exact ⟨ret_bool (by rw [hpy, Bool.false_and]), hb2⟩
    · rw [hpy] at hp
      go_wp2_with fail
      refine hp.mono ?_
      rintro o w2 ⟨rfl, hw2⟩
      clear hp
      have hb2 := hb1.trans (hw2.mono hb1.size)
      have hA2 := hA1.below hw2
      clear a0 a1
      obtain ⟨a0, a1⟩ := hA2.two
      go_wp2_with fail
      go_ret
      exact ⟨ret_bool (by rw [hpy, Bool.true_and]; by_cases h : x = y <;> simp [h]), hb2⟩

set_option maxRecDepth 20000 in
set_option maxHeartbeats 2000000 in
/-- A Send on what is no link. -/
theorem Send_link {w : World} {B g b n side : Nat} {lost : Int} {N : Int → Int → List ByteArray} {R : Int → Int → Value} (h : NB Z w B g b n side lost N R) {x y : Int} (hl : isLk x y = false) (v : Value) :
    Calls Try.prog 24 #[.pointer (some ⟨g, 0, none⟩), .agg #[.int .i64 x, .int .i64 y], v] w fun o w' => o = .returned (.int .i64 40) ∧ Below w.heap.size w w' := by
  have hba := below_alloc w (.cells #[.int .i64 x, .int .i64 y] 33)
  have hA := At.new 33 w #[.int .i64 x, .int .i64 y]
  have hN := h.below hba
  have hm := nmade_yes hN
  obtain ⟨a0, a1⟩ := hA.two
  have hp := isLink_any x y (w.alloc (.cells #[.int .i64 x, .int .i64 y] 33))
  rw [hl] at hp
  clear h hN hA
  go_enter Try.func24, Try.ntmps24
  go_wp2_with fail
  refine hm.mono ?_
  rintro o w1 ⟨rfl, hw⟩
  subst hw
  clear hm
  go_wp2_with fail
  refine hp.mono ?_
  rintro o w1 ⟨rfl, hw⟩
  clear hp
  go_wp2_with fail
  go_ret
  exact ⟨rfl, hba.trans (hw.mono hba.size)⟩

theorem Rd.conv {P : Program} {w : World} {p : Option Addr} {n c : Nat} {xs : List Int} (h : Rd .u8 w p n c xs) (src e dst : TypeId) (hs : P.underlying src = some (.slice e)) (he : P.underlying e = some (.int .u8)) (hd : P.underlying dst = some .string) :
    (convert src dst (.slice p n c)).run P w = .ok (.string (strOfNums xs)) w := by
  by_cases hn : n = 0
  · subst hn
    obtain rfl : xs = [] := List.length_eq_zero_iff.1 h.len
    rw [run_convert_bytes_string w src dst e _ _ c hs he hd]
    cases p with
    | none => simp [Conv.bytesToString, strOfNums]; rfl
    | some a =>
      have hl : (loadCells a 0).run P w = .ok #[] w := run_loadCells_list (P := P) w a [] (by simp)
      simp [Conv.bytesToString, hl, strOfNums]
      rfl
  · obtain ⟨b, o, rfl, hc⟩ := h.cells (by omega)
    exact run_convert_bytes_arg (P := P) w src e hs he b o n c xs h.len hc dst hd

theorem Rd.str {w : World} {p : Option Addr} {n c : Nat} {xs : List Int} (h : Rd .u8 w p n c xs) : (convert 34 9 (.slice p n c)).run Try.prog w = .ok (.string (strOfNums xs)) w :=
  h.conv (P := Try.prog) 34 5 9 Try.underlying34 Try.underlying5 Try.underlying9

set_option maxRecDepth 20000 in
set_option maxHeartbeats 2000000 in
/-- A Send that has room. -/
theorem Send_ok {w : World} {B g b n side : Nat} {lost : Int} {N : Int → Int → List ByteArray} {R : Int → Int → Value} (h : NB Z w B g b n side lost N R) (hn : n ≤ maxLen) {x y : Int} (hx : Wf x) (hy : Wf y) (hl : isLk x y = true) (hf : (N x y).length < 8)
    {p : Option Addr} {m c : Nat} {xs : List Int} (hr : Rd .u8 w p m c xs) (hm8 : m ≤ 8192) :
    Calls Try.prog 24 #[.pointer (some ⟨g, 0, none⟩), .agg #[.int .i64 x, .int .i64 y], .slice p m c] w fun o w' => o = .returned (.int .i64 0) ∧ (∃ v, NB Z w' B g b (n + 1) side lost (upN N x y (N x y ++ [strOfNums xs])) (upR R x y v)) ∧ BelF Z B g b w w' := by
  have hba := below_alloc w (.cells #[.int .i64 x, .int .i64 y] 33)
  have hA := At.new 33 w #[.int .i64 x, .int .i64 y]
  have hN := h.below hba
  have hm := nmade_yes hN
  have hBw : B ≤ w.heap.size := Nat.le_of_lt (Nat.lt_of_le_of_lt h.lo.1 h.blk.lt)
  obtain ⟨a0, a1⟩ := hA.two
  have hp := isLink_any x y (w.alloc (.cells #[.int .i64 x, .int .i64 y] 33))
  have hr1 := hr.below hba
  have hd : decide ((8192 : Int) < (m : Int)) = false := decide_eq_false (by omega)
  rw [hl] at hp
  clear h hr
  go_enter Try.func24, Try.ntmps24
  go_wp2_with fail
  refine hm.mono ?_
  rintro o w1 ⟨rfl, hw⟩
  subst hw
  clear hm
  go_wp2_with fail
  refine hp.mono ?_
  rintro o w1 ⟨rfl, hw⟩
  clear hp a0 a1
  have hb1 := hba.trans (hw.mono hba.size)
  have hN1 := hN.below hw
  have hA1 := hA.below hw
  have hc1 := (hr1.below hw).str
  obtain ⟨a0, a1⟩ := hA1.two
  have had := nadd_yes hN1 hn hx hy (strOfNums xs) hf
  have hB1 : BelF Z B g b w w1 := BelF.ofB hb1 hBw
  have hsz : B ≤ w1.heap.size := Nat.le_trans hBw hb1.size
  clear hN hN1 hA hr1 hw hba hA1 hb1
  go_wp2_with fail
  refine had.mono ?_
  rintro o w2 ⟨rfl, hN2, hw2⟩
  clear had
  go_wp2_with fail
  go_ret
  exact ⟨rfl, hN2, hB1.trans hw2⟩

end Go.Proofs.Ytmnipfdcbmamnaa.M
