/-
  Own text: the other contracts of links' calls.
-/
import Derived.Test.YtmnipfdcbmamnaaNForget
namespace Go.Proofs.Ytmnipfdcbmamnaa.M
open Go.ChangeShapes Go.WideShapes Go.ChangeAt Go.RowKit Go.ChangeMaps Go.MapKept Go.Maps

variable {Z : Nat → Prop}

theorem NB.lose {w : World} {B g b n side : Nat} {lost : Int} {N : Int → Int → List ByteArray} {R : Int → Int → Value} (h : NB Z w B g b n side lost N R) (s : Int) : NB Z (w.setCell ⟨g, 2, none⟩ (.int .i64 s)) B g b n side s N R := by
  have he : Ex g w (w.setCell ⟨g, 2, none⟩ (.int .i64 s)) := (Ex.refl g w).setCell 2 _
  have hA : At 68 (w.setCell ⟨g, 2, none⟩ (.int .i64 s)) g #[.map (some b), .int .u64 side, .int .i64 s] := heap_setCell_same w g 2 _ _ _ h.blk
  exact ⟨hA, h.map.kept (he.block b h.map.lt h.ne), fun a c hn => ownsRow_ex (h.rows a c hn) he (h.off a c hn).1, h.apart, h.ne, h.off, h.lo, h.zz.mono he.size⟩

theorem NB.up {w : World} {B g b n n' side : Nat} {lost : Int} {N : Int → Int → List ByteArray} {R : Int → Int → Value} (h : NB Z w B g b n side lost N R) (hn : n ≤ n') : NB Z w B g b n' side lost N R :=
  ⟨h.blk, h.map.mono hn, h.rows, h.apart, h.ne, h.off, h.lo, h.zz⟩

set_option maxRecDepth 20000 in
set_option maxHeartbeats 4000000 in
theorem Take_bad {w : World} {B g b n side : Nat} {lost : Int} {N : Int → Int → List ByteArray} {R : Int → Int → Value} (h : NB Z w B g b n side lost N R) {x y : Int} (hx : Wf x) (hy : Wf y) (i : Int) (hi : ¬ (0 ≤ i ∧ i < (N x y).length)) :
    Calls Try.prog 25 #[.pointer (some ⟨g, 0, none⟩), .agg #[.int .i64 x, .int .i64 y], .int .i64 i] w fun o w' => o = .returned (.tuple #[.slice none 0 0, .bool false, .int .i64 40]) ∧ Below w.heap.size w w' := by
  have hba := below_alloc w (.cells #[.int .i64 x, .int .i64 y] 33)
  have hA := At.new 33 w #[.int .i64 x, .int .i64 y]
  have hN := h.below hba
  have hBw : B ≤ w.heap.size := Nat.le_of_lt (Nat.lt_of_le_of_lt h.lo.1 h.blk.lt)
  obtain ⟨a0, a1⟩ := hA.two
  have hf := nfind_any hN hx hy i
  have hfr : findR (N x y) i = (ByteArray.empty, 40) := by
    unfold findR
    rw [if_neg hi]
  rw [hfr] at hf
  clear hfr h hi
  go_enter Try.func25, Try.ntmps25
  go_wp2_with fail
  refine hf.mono ?_
  rintro o w1 ⟨rfl, hw⟩
  clear hf
  go_wp2_with fail
  go_ret3
  exact ⟨rfl, hba.trans (hw.mono hba.size)⟩

set_option maxRecDepth 20000 in
set_option maxHeartbeats 4000000 in
theorem Peek_bad {w : World} {B g b n side : Nat} {lost : Int} {N : Int → Int → List ByteArray} {R : Int → Int → Value} (h : NB Z w B g b n side lost N R) {x y : Int} (hx : Wf x) (hy : Wf y) (i : Int) (hi : ¬ (0 ≤ i ∧ i < (N x y).length)) :
    Calls Try.prog 15 #[.pointer (some ⟨g, 0, none⟩), .agg #[.int .i64 x, .int .i64 y], .int .i64 i] w fun o w' => o = .returned (.tuple #[.slice none 0 0, .int .i64 40]) ∧ Below w.heap.size w w' := by
  have hba := below_alloc w (.cells #[.int .i64 x, .int .i64 y] 33)
  have hA := At.new 33 w #[.int .i64 x, .int .i64 y]
  have hN := h.below hba
  have hBw : B ≤ w.heap.size := Nat.le_of_lt (Nat.lt_of_le_of_lt h.lo.1 h.blk.lt)
  obtain ⟨a0, a1⟩ := hA.two
  have hf := nfind_any hN hx hy i
  have hfr : findR (N x y) i = (ByteArray.empty, 40) := by
    unfold findR
    rw [if_neg hi]
  rw [hfr] at hf
  clear hfr h hi
  go_enter Try.func15, Try.ntmps15
  go_wp2_with fail
  refine hf.mono ?_
  rintro o w1 ⟨rfl, hw⟩
  clear hf
  go_wp2_with fail
  go_ret2
  exact ⟨rfl, hba.trans (hw.mono hba.size)⟩

set_option maxRecDepth 20000 in
set_option maxHeartbeats 4000000 in
theorem Lose_bad {w : World} {B g b n side : Nat} {lost : Int} {N : Int → Int → List ByteArray} {R : Int → Int → Value} (h : NB Z w B g b n side lost N R) {x y : Int} (hx : Wf x) (hy : Wf y) (i : Int) (hi : ¬ (0 ≤ i ∧ i < (N x y).length)) :
    Calls Try.prog 28 #[.pointer (some ⟨g, 0, none⟩), .agg #[.int .i64 x, .int .i64 y], .int .i64 i] w fun o w' => o = .returned (.int .i64 40) ∧ Below w.heap.size w w' := by
  have hba := below_alloc w (.cells #[.int .i64 x, .int .i64 y] 33)
  have hA := At.new 33 w #[.int .i64 x, .int .i64 y]
  have hN := h.below hba
  have hBw : B ≤ w.heap.size := Nat.le_of_lt (Nat.lt_of_le_of_lt h.lo.1 h.blk.lt)
  obtain ⟨a0, a1⟩ := hA.two
  have hf := nfind_any hN hx hy i
  have hfr : findR (N x y) i = (ByteArray.empty, 40) := by
    unfold findR
    rw [if_neg hi]
  rw [hfr] at hf
  clear hfr h hi
  go_enter Try.func28, Try.ntmps28
  go_wp2_with fail
  refine hf.mono ?_
  rintro o w1 ⟨rfl, hw⟩
  clear hf
  go_wp2_with fail
  go_ret
  exact ⟨rfl, hba.trans (hw.mono hba.size)⟩

set_option maxRecDepth 20000 in
set_option maxHeartbeats 4000000 in
theorem Double_bad {w : World} {B g b n side : Nat} {lost : Int} {N : Int → Int → List ByteArray} {R : Int → Int → Value} (h : NB Z w B g b n side lost N R) {x y : Int} (hx : Wf x) (hy : Wf y) (i : Int) (hi : ¬ (0 ≤ i ∧ i < (N x y).length)) :
    Calls Try.prog 29 #[.pointer (some ⟨g, 0, none⟩), .agg #[.int .i64 x, .int .i64 y], .int .i64 i] w fun o w' => o = .returned (.int .i64 40) ∧ Below w.heap.size w w' := by
  have hba := below_alloc w (.cells #[.int .i64 x, .int .i64 y] 33)
  have hA := At.new 33 w #[.int .i64 x, .int .i64 y]
  have hN := h.below hba
  have hBw : B ≤ w.heap.size := Nat.le_of_lt (Nat.lt_of_le_of_lt h.lo.1 h.blk.lt)
  obtain ⟨a0, a1⟩ := hA.two
  have hf := nfind_any hN hx hy i
  have hfr : findR (N x y) i = (ByteArray.empty, 40) := by
    unfold findR
    rw [if_neg hi]
  rw [hfr] at hf
  clear hfr h hi
  go_enter Try.func29, Try.ntmps29
  go_wp2_with fail
  refine hf.mono ?_
  rintro o w1 ⟨rfl, hw⟩
  clear hf
  go_wp2_with fail
  go_ret
  exact ⟨rfl, hba.trans (hw.mono hba.size)⟩

set_option maxRecDepth 20000 in
set_option maxHeartbeats 4000000 in
theorem Lose_ok {w : World} {B g b n side : Nat} {lost : Int} {N : Int → Int → List ByteArray} {R : Int → Int → Value} (h : NB Z w B g b n side lost N R) {x y : Int} (hx : Wf x) (hy : Wf y) (i : Nat) (hi : i < (N x y).length) (hl8 : (N x y).length ≤ 1000) :
    Calls Try.prog 28 #[.pointer (some ⟨g, 0, none⟩), .agg #[.int .i64 x, .int .i64 y], .int .i64 i] w fun o w' => o = .returned (.int .i64 0) ∧ (∃ v, NB Z w' B g b (n + 1) side lost (upN N x y ((N x y).eraseIdx i)) (upR R x y v)) ∧ BelF Z B g b w w' := by
  have hba := below_alloc w (.cells #[.int .i64 x, .int .i64 y] 33)
  have hA := At.new 33 w #[.int .i64 x, .int .i64 y]
  have hN := h.below hba
  have hBw : B ≤ w.heap.size := Nat.le_of_lt (Nat.lt_of_le_of_lt h.lo.1 h.blk.lt)
  obtain ⟨a0, a1⟩ := hA.two
  obtain ⟨msg, hmsg⟩ : ∃ msg, (N x y).getD i ByteArray.empty = msg := ⟨_, rfl⟩
  have hf := nfind_any hN hx hy (i : Int)
  have hfr : findR (N x y) (i : Int) = ((N x y).getD i ByteArray.empty, 0) := by
    unfold findR
    rw [if_pos ⟨by omega, by omega⟩]
    rfl
  rw [hfr, hmsg] at hf
  clear hfr h hmsg
  go_enter Try.func28, Try.ntmps28
  go_wp2_with fail
  refine hf.mono ?_
  rintro o w1 ⟨rfl, hw⟩
  clear hf a0 a1
  have hb1 := hba.trans (hw.mono hba.size)
  have hA1 := hA.below hw
  obtain ⟨a0, a1⟩ := hA1.two
  have hdr := ndrop_any (hN.below hw) hx hy i hi hl8
  have hB1 : BelF Z B g b w w1 := BelF.ofB hb1 hBw
  clear hN hA hw hba
  go_wp2_with fail
  refine hdr.mono ?_
  rintro o w2 ⟨rfl, hNz, hw2⟩
  have hB2 := hB1.trans hw2
  clear hdr a0 a1 hB1 hb1 hA1 hw2
  go_wp2_with fail
  go_ret
  exact ⟨rfl, hNz, hB2⟩

set_option maxRecDepth 20000 in
set_option maxHeartbeats 4000000 in
theorem Double_full {w : World} {B g b n side : Nat} {lost : Int} {N : Int → Int → List ByteArray} {R : Int → Int → Value} (h : NB Z w B g b n side lost N R) {x y : Int} (hx : Wf x) (hy : Wf y) (i : Nat) (hi : i < (N x y).length) (hf8 : 8 ≤ (N x y).length) {msg : ByteArray} (hmsg : (N x y).getD i ByteArray.empty = msg) :
    Calls Try.prog 29 #[.pointer (some ⟨g, 0, none⟩), .agg #[.int .i64 x, .int .i64 y], .int .i64 i] w fun o w' => o = .returned (.int .i64 7) ∧ Below w.heap.size w w' := by
  have hba := below_alloc w (.cells #[.int .i64 x, .int .i64 y] 33)
  have hA := At.new 33 w #[.int .i64 x, .int .i64 y]
  have hN := h.below hba
  have hBw : B ≤ w.heap.size := Nat.le_of_lt (Nat.lt_of_le_of_lt h.lo.1 h.blk.lt)
  obtain ⟨a0, a1⟩ := hA.two
  have hf := nfind_any hN hx hy (i : Int)
  have hfr : findR (N x y) (i : Int) = ((N x y).getD i ByteArray.empty, 0) := by
    unfold findR
    rw [if_pos ⟨by omega, by omega⟩]
    rfl
  rw [hfr, hmsg] at hf
  clear hfr h hmsg
  go_enter Try.func29, Try.ntmps29
  go_wp2_with fail
  refine hf.mono ?_
  rintro o w1 ⟨rfl, hw⟩
  clear hf a0 a1
  have hb1 := hba.trans (hw.mono hba.size)
  have hA1 := hA.below hw
  obtain ⟨a0, a1⟩ := hA1.two
  have hdr := nadd_no (hN.below hw) hx hy msg hf8
  clear hN hA hba
  go_wp2_with fail
  refine hdr.mono ?_
  rintro o w2 ⟨rfl, hw2⟩
  clear hdr a0 a1 hA1
  go_wp2_with fail
  go_ret
  exact ⟨rfl, hb1.trans (hw2.mono hb1.size)⟩

set_option maxRecDepth 20000 in
set_option maxHeartbeats 4000000 in
theorem Double_ok {w : World} {B g b n side : Nat} {lost : Int} {N : Int → Int → List ByteArray} {R : Int → Int → Value} (h : NB Z w B g b n side lost N R) {x y : Int} (hx : Wf x) (hy : Wf y) (i : Nat) (hi : i < (N x y).length) (hn : n ≤ maxLen) (hf8 : (N x y).length < 8) {msg : ByteArray} (hmsg : (N x y).getD i ByteArray.empty = msg) :
    Calls Try.prog 29 #[.pointer (some ⟨g, 0, none⟩), .agg #[.int .i64 x, .int .i64 y], .int .i64 i] w fun o w' => o = .returned (.int .i64 0) ∧ (∃ v, NB Z w' B g b (n + 1) side lost (upN N x y (N x y ++ [msg])) (upR R x y v)) ∧ BelF Z B g b w w' := by
  have hba := below_alloc w (.cells #[.int .i64 x, .int .i64 y] 33)
  have hA := At.new 33 w #[.int .i64 x, .int .i64 y]
  have hN := h.below hba
  have hBw : B ≤ w.heap.size := Nat.le_of_lt (Nat.lt_of_le_of_lt h.lo.1 h.blk.lt)
  obtain ⟨a0, a1⟩ := hA.two
  have hf := nfind_any hN hx hy (i : Int)
  have hfr : findR (N x y) (i : Int) = ((N x y).getD i ByteArray.empty, 0) := by
    unfold findR
    rw [if_pos ⟨by omega, by omega⟩]
    rfl
  rw [hfr, hmsg] at hf
  clear hfr h hmsg
  go_enter Try.func29, Try.ntmps29
  go_wp2_with fail
  refine hf.mono ?_
  rintro o w1 ⟨rfl, hw⟩
  clear hf a0 a1
  have hb1 := hba.trans (hw.mono hba.size)
  have hA1 := hA.below hw
  obtain ⟨a0, a1⟩ := hA1.two
  have hdr := nadd_yes (hN.below hw) hn hx hy msg hf8
  clear hN hA hba
  go_wp2_with fail
  refine hdr.mono ?_
  rintro o w2 ⟨rfl, hw2⟩
  clear hdr a0 a1 hA1
  go_wp2_with fail
  go_ret
  exact ⟨rfl, hw2.1, (BelF.ofB hb1 hBw).trans hw2.2⟩

set_option maxRecDepth 20000 in
set_option maxHeartbeats 4000000 in
theorem Peek_ok {w : World} {B g b n side : Nat} {lost : Int} {N : Int → Int → List ByteArray} {R : Int → Int → Value} (h : NB Z w B g b n side lost N R) {x y : Int} (hx : Wf x) (hy : Wf y) (i : Nat) (hi : i < (N x y).length) {msg : ByteArray} (hmsg : (N x y).getD i ByteArray.empty = msg) :
    Calls Try.prog 15 #[.pointer (some ⟨g, 0, none⟩), .agg #[.int .i64 x, .int .i64 y], .int .i64 i] w fun o w' => (∃ p m c, o = .returned (.tuple #[.slice p m c, .int .i64 0]) ∧ Rd .u8 w' p m c (numsOf msg) ∧ RowU w.heap.size w' p) ∧ Below w.heap.size w w' := by
  have hba := below_alloc w (.cells #[.int .i64 x, .int .i64 y] 33)
  have hA := At.new 33 w #[.int .i64 x, .int .i64 y]
  have hN := h.below hba
  have hBw : B ≤ w.heap.size := Nat.le_of_lt (Nat.lt_of_le_of_lt h.lo.1 h.blk.lt)
  obtain ⟨a0, a1⟩ := hA.two
  have hf := nfind_any hN hx hy (i : Int)
  have hfr : findR (N x y) (i : Int) = ((N x y).getD i ByteArray.empty, 0) := by
    unfold findR
    rw [if_pos ⟨by omega, by omega⟩]
    rfl
  rw [hfr, hmsg] at hf
  clear hfr h hmsg
  go_enter Try.func15, Try.ntmps15
  go_wp2_with fail
  refine hf.mono ?_
  rintro o w1 ⟨rfl, hw⟩
  clear hf a0 a1
  have hb1 := hba.trans (hw.mono hba.size)
  obtain ⟨c, w', hcv, hrd, hbl, hru⟩ := conv_back w1 msg
  go_wp2_with fail
  go_ret2
  exact ⟨⟨some ⟨w1.heap.size, 0, none⟩, msg.size, c, rfl, hrd, hru.low hb1.size⟩, hb1.trans (hbl.mono hb1.size)⟩

set_option maxRecDepth 20000 in
set_option maxHeartbeats 4000000 in
theorem Send_long {w : World} {B g b n side : Nat} {lost : Int} {N : Int → Int → List ByteArray} {R : Int → Int → Value} (h : NB Z w B g b n side lost N R) {x y : Int} (hl : isLk x y = true) {p : Option Addr} {m c : Nat} (hm8 : 8192 < m) :
    Calls Try.prog 24 #[.pointer (some ⟨g, 0, none⟩), .agg #[.int .i64 x, .int .i64 y], .slice p m c] w fun o w' => o = .returned (.int .i64 4) ∧ Below w.heap.size w w' := by
  have hba := below_alloc w (.cells #[.int .i64 x, .int .i64 y] 33)
  have hA := At.new 33 w #[.int .i64 x, .int .i64 y]
  have hN := h.below hba
  have hBw : B ≤ w.heap.size := Nat.le_of_lt (Nat.lt_of_le_of_lt h.lo.1 h.blk.lt)
  obtain ⟨a0, a1⟩ := hA.two
  have hm := nmade_yes hN
  have hp := isLink_any x y (w.alloc (.cells #[.int .i64 x, .int .i64 y] 33))
  rw [hl] at hp
  have hd : decide ((8192 : Int) < (m : Int)) = true := decide_eq_true (by omega)
  clear h
  go_enter Try.func24, Try.ntmps24
  go_wp2_with fail
  refine hm.mono ?_
  rintro o w1 ⟨rfl, hw⟩
  subst hw
  clear hm
  go_wp2_with fail
  refine hp.mono ?_
  rintro o w1 ⟨rfl, hw⟩
  clear hp a0 a1
  go_wp2_with fail
  go_ret
  exact ⟨rfl, hba.trans (hw.mono hba.size)⟩

set_option maxRecDepth 20000 in
set_option maxHeartbeats 4000000 in
theorem Send_full {w : World} {B g b n side : Nat} {lost : Int} {N : Int → Int → List ByteArray} {R : Int → Int → Value} (h : NB Z w B g b n side lost N R) {x y : Int} (hx : Wf x) (hy : Wf y) (hl : isLk x y = true) (hf : 8 ≤ (N x y).length) {p : Option Addr} {m c : Nat} {xs : List Int} (hr : Rd .u8 w p m c xs) (hm8 : m ≤ 8192) (hlo : 0 ≤ lost ∧ lost ≤ 1000000) :
    Calls Try.prog 24 #[.pointer (some ⟨g, 0, none⟩), .agg #[.int .i64 x, .int .i64 y], .slice p m c] w fun o w' => o = .returned (.int .i64 7) ∧ NB Z w' B g b n side (lost + 1) N R ∧ BelF Z B g b w w' := by
  have hba := below_alloc w (.cells #[.int .i64 x, .int .i64 y] 33)
  have hA := At.new 33 w #[.int .i64 x, .int .i64 y]
  have hN := h.below hba
  have hBw : B ≤ w.heap.size := Nat.le_of_lt (Nat.lt_of_le_of_lt h.lo.1 h.blk.lt)
  obtain ⟨a0, a1⟩ := hA.two
  have hm := nmade_yes hN
  have hp := isLink_any x y (w.alloc (.cells #[.int .i64 x, .int .i64 y] 33))
  rw [hl] at hp
  have hr1 := hr.below hba
  have hd : decide ((8192 : Int) < (m : Int)) = false := decide_eq_false (by omega)
  have hwr : IntKind.i64.wrap (lost + 1) = lost + 1 := by rw [IntKind.wrap_i64]; omega
  clear h hr
  go_enter Try.func24, Try.ntmps24
  go_wp2_with fail
  refine hm.mono ?_
  rintro o w1 ⟨rfl, hw⟩
  subst hw
  clear hm
  go_wp2_with fail
  refine hp.mono ?_
  rintro o w1 ⟨rfl, hw⟩
  clear hp a0 a1
  have hb1 := hba.trans (hw.mono hba.size)
  have hN1 := hN.below hw
  have hA1 := hA.below hw
  have hc1 := (hr1.below hw).str
  obtain ⟨a0, a1⟩ := hA1.two
  have had := nadd_no hN1 hx hy (strOfNums xs) hf
  have hB1 : BelF Z B g b w w1 := BelF.ofB hb1 hBw
  have hsz : B ≤ w1.heap.size := Nat.le_trans hBw hb1.size
  clear hN hA hr1 hw hba hA1 hb1
  go_wp2_with fail
  refine had.mono ?_
  rintro o w2 ⟨rfl, hw2⟩
  clear had
  have hN2 := hN1.below hw2
  have hB2 := hB1.bl hw2 hsz
  obtain ⟨q0, q1, q2⟩ := hN2.blk.three
  have qf := hN2.blk.free 2
  have hlz := hN2.lose (lost + 1)
  have hbz : BelF Z B g b w _ := hB2.trans (BelF.exg ((Ex.refl g w2).setCell 2 (.int .i64 (lost + 1))) hN2.lo.1 hN2.blk.lt hN2.zz.2.1.1)
  clear hN1 hN2 hB1 hB2 hw2
  go_wp2_with fail
  go_ret
  exact ⟨rfl, hlz, hbz⟩

end Go.Proofs.Ytmnipfdcbmamnaa.M
