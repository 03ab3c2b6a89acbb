/-
  Own text: what a call does to a Net, in plain words, and that does does it.
-/
import Derived.Test.YtmnipfdcbmamnaaNOps
import Derived.Test.YtmnipfdcbmamnaaOpenN
namespace Go.Proofs.Ytmnipfdcbmamnaa.M
open Go.ChangeShapes Go.WideShapes Go.ChangeAt Go.RowKit Go.ChangeMaps Go.MapKept Go.Maps

variable {Z : Nat → Prop}

theorem At.six {t : TypeId} {w : World} {g : Nat} {x y z u p q : Value} (h : At t w g #[x, y, z, u, p, q]) : w.cell? ⟨g, 0, none⟩ = some x ∧ w.cell? ⟨g, 1, none⟩ = some y ∧ w.cell? ⟨g, 2, none⟩ = some z ∧ w.cell? ⟨g, 3, none⟩ = some u ∧ w.cell? ⟨g, 4, none⟩ = some p ∧ w.cell? ⟨g, 5, none⟩ = some q := ⟨h.cell 0, h.cell 1, h.cell 2, h.cell 3, h.cell 4, h.cell 5⟩

/-- A Net in plain words. -/
structure PN where
  N : Int → Int → List ByteArray
  side : Nat
  lost : Int

/-- An answer: whether something came, the number, what came. -/
structure Ans where
  ok : Bool
  e : Int
  msg : ByteArray

/-- What a call makes of it and answers. -/
def PN.act (m : PN) (z : Int) (k : Nd) : PN × Ans :=
  if z = 3 ∨ z = 4 then
    if 0 ≤ k.i ∧ k.i < (m.N k.x k.y).length then ({ m with N := upN m.N k.x k.y ((m.N k.x k.y).eraseIdx k.i.toNat) }, ⟨opn m.side k.x k.y, 0, (m.N k.x k.y).getD k.i.toNat ByteArray.empty⟩) else (m, ⟨false, 40, ByteArray.empty⟩)
  else if z = 5 then
    if 0 ≤ k.i ∧ k.i < (m.N k.x k.y).length then ({ m with N := upN m.N k.x k.y ((m.N k.x k.y).eraseIdx k.i.toNat) }, ⟨false, 0, ByteArray.empty⟩) else (m, ⟨false, 40, ByteArray.empty⟩)
  else if z = 6 then
    if 0 ≤ k.i ∧ k.i < (m.N k.x k.y).length then
      if (m.N k.x k.y).length < 8 then ({ m with N := upN m.N k.x k.y (m.N k.x k.y ++ [(m.N k.x k.y).getD k.i.toNat ByteArray.empty]) }, ⟨false, 0, ByteArray.empty⟩) else (m, ⟨false, 7, ByteArray.empty⟩)
    else (m, ⟨false, 40, ByteArray.empty⟩)
  else if z = 7 then ({ m with side := k.s.toNat }, ⟨false, 0, ByteArray.empty⟩)
  else if z = 8 then ({ m with N := clrN m.N k.i }, ⟨false, 0, ByteArray.empty⟩)
  else if isLk k.x k.y = false then (m, ⟨false, 40, ByteArray.empty⟩)
  else if 8192 < k.bl then (m, ⟨false, 4, ByteArray.empty⟩)
  else if (m.N k.x k.y).length < 8 then ({ m with N := upN m.N k.x k.y (m.N k.x k.y ++ [strOfNums k.xb]) }, ⟨false, 0, ByteArray.empty⟩) else ({ m with lost := m.lost + 1 }, ⟨false, 7, ByteArray.empty⟩)

def PN.step (m : PN) (k : Nd) : PN × Ans := m.act (wrap64 ((IntKind.u64.wrap k.op).tmod 9)) k

/-- A Net in memory that is this one. -/
structure NM (Z : Nat → Prop) (w : World) (B g b n : Nat) (m : PN) : Prop where
  nb : ∃ R, NB Z w B g b n m.side m.lost m.N R
  few : ∀ x y, (m.N x y).length ≤ 8
  sd : m.side < 18446744073709551616
  lo : 0 ≤ m.lost ∧ m.lost ≤ n

theorem NM.below {w w' : World} {B g b n : Nat} {m : PN} (h : NM Z w B g b n m) (hb : Below w.heap.size w w') : NM Z w' B g b n m := by
  obtain ⟨⟨R, h1⟩, h2, h3, h4⟩ := h
  exact ⟨⟨R, h1.below hb⟩, h2, h3, h4⟩

theorem NM.up {w : World} {B g b n : Nat} {m : PN} (h : NM Z w B g b n m) : NM Z w B g b (n + 1) m := by
  obtain ⟨⟨R, h1⟩, h2, h3, h4⟩ := h
  exact ⟨⟨R, h1.up (Nat.le_succ n)⟩, h2, h3, by omega⟩

theorem NM.lt {w : World} {B g b n : Nat} {m : PN} (h : NM Z w B g b n m) : g < w.heap.size ∧ b < w.heap.size ∧ B ≤ w.heap.size := by
  obtain ⟨⟨R, h1⟩, _⟩ := h
  exact ⟨h1.blk.lt, h1.map.lt, Nat.le_of_lt (Nat.lt_of_le_of_lt h1.lo.1 h1.blk.lt)⟩

/-- What does answers. -/
def Did (B0 : Nat) (w' : World) (o : Ending) (a : Ans) : Prop := ∃ p mm c, o = .returned (.tuple #[.slice p mm c, .bool a.ok, .int .i64 a.e]) ∧ Rd .u8 w' p mm c (if a.ok then numsOf a.msg else []) ∧ RowU B0 w' p

theorem Did.none (B0 : Nat) (w' : World) (e : Int) (msg : ByteArray) : Did B0 w' (.returned (.tuple #[.slice none 0 0, .bool false, .int .i64 e])) ⟨false, e, msg⟩ :=
  ⟨_, _, _, rfl, ⟨rfl, Nat.le_refl _, (fun _ => rfl), (fun h => absurd h (Nat.lt_irrefl _))⟩, fun a e => by cases e⟩

theorem few_up {N : Int → Int → List ByteArray} (h : ∀ x y, (N x y).length ≤ 8) (x y : Int) (l : List ByteArray) (hl : l.length ≤ 8) (a c : Int) : (upN N x y l a c).length ≤ 8 := by
  unfold upN
  split
  · exact hl
  · exact h a c

theorem few_clr {N : Int → Int → List ByteArray} (h : ∀ x y, (N x y).length ≤ 8) (p : Int) (a c : Int) : (clrN N p a c).length ≤ 8 := by
  unfold clrN
  split
  · exact Nat.zero_le _
  · exact h a c

theorem u64_wf {s : Int} (h : (Lit.int .u64 s).wf = true) : 0 ≤ s ∧ s < 18446744073709551616 := by
  have h2 : IntKind.u64.min ≤ s ∧ s ≤ IntKind.u64.max := by simpa [Lit.wf] using h
  have h3 : IntKind.u64.min = 0 ∧ IntKind.u64.max = 18446744073709551615 := by decide
  omega

set_option linter.unusedVariables false in
set_option maxRecDepth 20000 in
set_option maxHeartbeats 8000000 in
theorem does_any {w : World} {B g b n : Nat} {m : PN} (h : NM Z w B g b n m) (hn : n ≤ 1000) (op i x y : Int) (bq : Option Addr) (bl bc : Nat) (s : Int) (xb : List Int) (hk : Nd.rd w (⟨op, i, x, y, bq, bl, bc, s, xb⟩ : Nd)) :
    Calls Try.prog 10 #[.pointer (some ⟨g, 0, none⟩), .agg #[.int .i64 op, .int .i64 i, .int .i64 x, .int .i64 y, .slice bq bl bc, .int .u64 s]] w fun o w' => Did w.heap.size w' o (m.step (⟨op, i, x, y, bq, bl, bc, s, xb⟩ : Nd)).2 ∧ NM Z w' B g b (n + 1) (m.step (⟨op, i, x, y, bq, bl, bc, s, xb⟩ : Nd)).1 ∧ BelF Z B g b w w' := by
  have hba := below_alloc w (.cells #[.int .i64 op, .int .i64 i, .int .i64 x, .int .i64 y, .slice bq bl bc, .int .u64 s] 37)
  have hA := At.new 37 w #[.int .i64 op, .int .i64 i, .int .i64 x, .int .i64 y, .slice bq bl bc, .int .u64 s]
  obtain ⟨c0, c1, c2, c3, c4, c5⟩ := hA.six
  have hM := h.below hba
  have hBw := h.lt.2.2
  have hF : BelF Z B g b w (w.alloc (.cells #[.int .i64 op, .int .i64 i, .int .i64 x, .int .i64 y, .slice bq bl bc, .int .u64 s] 37)) := BelF.ofB hba hBw
  have hBw0 : B ≤ (w.alloc (.cells #[.int .i64 op, .int .i64 i, .int .i64 x, .int .i64 y, .slice bq bl bc, .int .u64 s] 37)).heap.size := Nat.le_trans hBw hba.size
  obtain ⟨⟨R, hN⟩, few, sd, lo⟩ := hM
  have hup := (h.below hba).up
  have hn2 : n ≤ maxLen := by unfold maxLen; omega
  obtain ⟨hrd, _, _, _, hx, hy, hsw⟩ := hk
  replace hx : Wf x := hx
  replace hy : Wf y := hy
  replace hsw : (Lit.int .u64 s).wf = true := hsw
  replace hrd : Rd .u8 w bq bl bc xb := hrd
  replace hrd := hrd.below hba
  have hl1 : (m.N x y).length ≤ 1000 := Nat.le_trans (few x y) (by decide)
  clear h hA
  cases q3 : (wrap64 ((IntKind.u64.wrap op).tmod 9) == 3) with
  | true =>
    have z3 := eq_of_beq q3
    by_cases hi : 0 ≤ i ∧ i < (m.N x y).length
    · obtain ⟨j, rfl⟩ := Int.eq_ofNat_of_zero_le hi.1
      have hj : j < (m.N x y).length := by omega
      have hc := Take_ok hN sd hx hy j hj hl1 rfl
      have hs : m.step (⟨op, (j : Int), x, y, bq, bl, bc, s, xb⟩ : Nd) = ({ m with N := upN m.N x y ((m.N x y).eraseIdx j) }, ⟨opn m.side x y, 0, (m.N x y).getD j ByteArray.empty⟩) := by unfold PN.step PN.act; rw [if_pos (Or.inl z3)]; rw [if_pos hi]; rfl
      clear hrd hN
      go_enter Try.func10, Try.ntmps10
      go_wp2_with fail
      refine hc.mono ?_
      rintro o w1 ⟨⟨p, mm, c, rfl, hr1, hr2⟩, ⟨v, hNz⟩, hw2⟩
      clear hc
      go_wp2_with fail
      go_ret3
      rw [hs]
      exact ⟨⟨p, mm, c, rfl, hr1, hr2.low hba.size⟩, ⟨⟨_, hNz⟩, few_up few x y _ (by rw [List.length_eraseIdx, if_pos hj]; have := few x y; omega), sd, by dsimp only; omega⟩, hF.trans hw2⟩
    · skip
      have hc := Take_bad hN hx hy i hi
      have hs : m.step (⟨op, i, x, y, bq, bl, bc, s, xb⟩ : Nd) = (m, ⟨false, 40, ByteArray.empty⟩) := by unfold PN.step PN.act; rw [if_pos (Or.inl z3)]; rw [if_neg hi]
      clear hrd hN
      go_enter Try.func10, Try.ntmps10
      go_wp2_with fail
      refine hc.mono ?_
      rintro o w1 ⟨rfl, hw⟩
      clear hc
      go_wp2_with fail
      go_ret3
      rw [hs]
      exact ⟨Did.none _ _ 40 _, hup.below hw, hF.bl hw hBw0⟩
  | false =>
    have z3 := ne_of_beq_false q3
    cases q4 : (wrap64 ((IntKind.u64.wrap op).tmod 9) == 4) with
    | true =>
      have z4 := eq_of_beq q4
      by_cases hi : 0 ≤ i ∧ i < (m.N x y).length
      · obtain ⟨j, rfl⟩ := Int.eq_ofNat_of_zero_le hi.1
        have hj : j < (m.N x y).length := by omega
        have hc := Take_ok hN sd hx hy j hj hl1 rfl
        have hs : m.step (⟨op, (j : Int), x, y, bq, bl, bc, s, xb⟩ : Nd) = ({ m with N := upN m.N x y ((m.N x y).eraseIdx j) }, ⟨opn m.side x y, 0, (m.N x y).getD j ByteArray.empty⟩) := by unfold PN.step PN.act; rw [if_pos (Or.inr z4)]; rw [if_pos hi]; rfl
        clear hrd hN
        go_enter Try.func10, Try.ntmps10
        go_wp2_with fail
        refine hc.mono ?_
        rintro o w1 ⟨⟨p, mm, c, rfl, hr1, hr2⟩, ⟨v, hNz⟩, hw2⟩
        clear hc
        go_wp2_with fail
        go_ret3
        rw [hs]
        exact ⟨⟨p, mm, c, rfl, hr1, hr2.low hba.size⟩, ⟨⟨_, hNz⟩, few_up few x y _ (by rw [List.length_eraseIdx, if_pos hj]; have := few x y; omega), sd, by dsimp only; omega⟩, hF.trans hw2⟩
      · skip
        have hc := Take_bad hN hx hy i hi
        have hs : m.step (⟨op, i, x, y, bq, bl, bc, s, xb⟩ : Nd) = (m, ⟨false, 40, ByteArray.empty⟩) := by unfold PN.step PN.act; rw [if_pos (Or.inr z4)]; rw [if_neg hi]
        clear hrd hN
        go_enter Try.func10, Try.ntmps10
        go_wp2_with fail
        refine hc.mono ?_
        rintro o w1 ⟨rfl, hw⟩
        clear hc
        go_wp2_with fail
        go_ret3
        rw [hs]
        exact ⟨Did.none _ _ 40 _, hup.below hw, hF.bl hw hBw0⟩
    | false =>
      have z4 := ne_of_beq_false q4
      cases q5 : (wrap64 ((IntKind.u64.wrap op).tmod 9) == 5) with
      | true =>
        have z5 := eq_of_beq q5
        by_cases hi : 0 ≤ i ∧ i < (m.N x y).length
        · obtain ⟨j, rfl⟩ := Int.eq_ofNat_of_zero_le hi.1
          have hj : j < (m.N x y).length := by omega
          have hc := Lose_ok hN hx hy j hj hl1
          have hs : m.step (⟨op, (j : Int), x, y, bq, bl, bc, s, xb⟩ : Nd) = ({ m with N := upN m.N x y ((m.N x y).eraseIdx j) }, ⟨false, 0, ByteArray.empty⟩) := by unfold PN.step PN.act; rw [if_neg (fun e => e.elim z3 z4)]; rw [if_pos z5]; rw [if_pos hi]; rfl
          clear hrd hN
          go_enter Try.func10, Try.ntmps10
          go_wp2_with fail
          refine hc.mono ?_
          rintro o w1 ⟨rfl, ⟨v, hNz⟩, hw2⟩
          clear hc
          go_wp2_with fail
          go_ret3
          rw [hs]
          exact ⟨Did.none _ _ 0 _, ⟨⟨_, hNz⟩, few_up few x y _ (by rw [List.length_eraseIdx, if_pos hj]; have := few x y; omega), sd, by dsimp only; omega⟩, hF.trans hw2⟩
        · skip
          have hc := Lose_bad hN hx hy i hi
          have hs : m.step (⟨op, i, x, y, bq, bl, bc, s, xb⟩ : Nd) = (m, ⟨false, 40, ByteArray.empty⟩) := by unfold PN.step PN.act; rw [if_neg (fun e => e.elim z3 z4)]; rw [if_pos z5]; rw [if_neg hi]
          clear hrd hN
          go_enter Try.func10, Try.ntmps10
          go_wp2_with fail
          refine hc.mono ?_
          rintro o w1 ⟨rfl, hw⟩
          clear hc
          go_wp2_with fail
          go_ret3
          rw [hs]
          exact ⟨Did.none _ _ 40 _, hup.below hw, hF.bl hw hBw0⟩
      | false =>
        have z5 := ne_of_beq_false q5
        cases q6 : (wrap64 ((IntKind.u64.wrap op).tmod 9) == 6) with
        | true =>
          have z6 := eq_of_beq q6
          by_cases hi : 0 ≤ i ∧ i < (m.N x y).length
          · obtain ⟨j, rfl⟩ := Int.eq_ofNat_of_zero_le hi.1
            have hj : j < (m.N x y).length := by omega
            by_cases hf8 : (m.N x y).length < 8
            · skip
              have hc := Double_ok hN hx hy j hj hn2 hf8 rfl
              have hs : m.step (⟨op, (j : Int), x, y, bq, bl, bc, s, xb⟩ : Nd) = ({ m with N := upN m.N x y (m.N x y ++ [(m.N x y).getD j ByteArray.empty]) }, ⟨false, 0, ByteArray.empty⟩) := by unfold PN.step PN.act; rw [if_neg (fun e => e.elim z3 z4)]; rw [if_neg z5]; rw [if_pos z6]; rw [if_pos hi]; rw [if_pos hf8]; rfl
              clear hrd hN
              go_enter Try.func10, Try.ntmps10
              go_wp2_with fail
              refine hc.mono ?_
              rintro o w1 ⟨rfl, ⟨v, hNz⟩, hw2⟩
              clear hc
              go_wp2_with fail
              go_ret3
              rw [hs]
              exact ⟨Did.none _ _ 0 _, ⟨⟨_, hNz⟩, few_up few x y _ (by rw [List.length_append, List.length_singleton]; omega), sd, by dsimp only; omega⟩, hF.trans hw2⟩
            · skip
              have hc := Double_full hN hx hy j hj (by omega) rfl
              have hs : m.step (⟨op, (j : Int), x, y, bq, bl, bc, s, xb⟩ : Nd) = (m, ⟨false, 7, ByteArray.empty⟩) := by unfold PN.step PN.act; rw [if_neg (fun e => e.elim z3 z4)]; rw [if_neg z5]; rw [if_pos z6]; rw [if_pos hi]; rw [if_neg hf8]
              clear hrd hN
              go_enter Try.func10, Try.ntmps10
              go_wp2_with fail
              refine hc.mono ?_
              rintro o w1 ⟨rfl, hw⟩
              clear hc
              go_wp2_with fail
              go_ret3
              rw [hs]
              exact ⟨Did.none _ _ 7 _, hup.below hw, hF.bl hw hBw0⟩
          · skip
            have hc := Double_bad hN hx hy i hi
            have hs : m.step (⟨op, i, x, y, bq, bl, bc, s, xb⟩ : Nd) = (m, ⟨false, 40, ByteArray.empty⟩) := by unfold PN.step PN.act; rw [if_neg (fun e => e.elim z3 z4)]; rw [if_neg z5]; rw [if_pos z6]; rw [if_neg hi]
            clear hrd hN
            go_enter Try.func10, Try.ntmps10
            go_wp2_with fail
            refine hc.mono ?_
            rintro o w1 ⟨rfl, hw⟩
            clear hc
            go_wp2_with fail
            go_ret3
            rw [hs]
            exact ⟨Did.none _ _ 40 _, hup.below hw, hF.bl hw hBw0⟩
        | false =>
          have z6 := ne_of_beq_false q6
          cases q7 : (wrap64 ((IntKind.u64.wrap op).tmod 9) == 7) with
          | true =>
            have z7 := eq_of_beq q7
            obtain ⟨s', rfl, hs9⟩ : ∃ s' : Nat, s = s' ∧ s' < 18446744073709551616 := by
              have := u64_wf hsw
              exact ⟨s.toNat, by omega, by omega⟩
            have hc := Wall_any hN s'
            have hs : m.step (⟨op, i, x, y, bq, bl, bc, (s' : Int), xb⟩ : Nd) = ({ m with side := s' }, ⟨false, 0, ByteArray.empty⟩) := by unfold PN.step PN.act; rw [if_neg (fun e => e.elim z3 z4)]; rw [if_neg z5]; rw [if_neg z6]; rw [if_pos z7]; rfl
            clear hrd hN
            go_enter Try.func10, Try.ntmps10
            go_wp2_with fail
            refine hc.mono ?_
            rintro o w1 ⟨rfl, hNz, hw2⟩
            clear hc
            go_wp2_with fail
            go_ret3
            rw [hs]
            exact ⟨Did.none _ _ 0 _, ⟨⟨_, hNz.up (Nat.le_succ n)⟩, few, hs9, by dsimp only; omega⟩, hF.trans hw2⟩
          | false =>
            have z7 := ne_of_beq_false q7
            cases q8 : (wrap64 ((IntKind.u64.wrap op).tmod 9) == 8) with
            | true =>
              have z8 := eq_of_beq q8
              have hc := Forget_any hN i
              have hs : m.step (⟨op, i, x, y, bq, bl, bc, s, xb⟩ : Nd) = ({ m with N := clrN m.N i }, ⟨false, 0, ByteArray.empty⟩) := by unfold PN.step PN.act; rw [if_neg (fun e => e.elim z3 z4)]; rw [if_neg z5]; rw [if_neg z6]; rw [if_neg z7]; rw [if_pos z8]
              clear hrd hN
              go_enter Try.func10, Try.ntmps10
              go_wp2_with fail
              refine hc.mono ?_
              rintro o w1 ⟨rfl, hNz, hw2⟩
              clear hc
              go_wp2_with fail
              go_ret3
              rw [hs]
              exact ⟨Did.none _ _ 0 _, ⟨⟨_, hNz.up (Nat.le_succ n)⟩, few_clr few i, sd, by dsimp only; omega⟩, hF.trans hw2⟩
            | false =>
              have z8 := ne_of_beq_false q8
              cases hl : isLk x y with
              | false =>
                have hc := Send_link hN hl (.slice bq bl bc)
                have hs : m.step (⟨op, i, x, y, bq, bl, bc, s, xb⟩ : Nd) = (m, ⟨false, 40, ByteArray.empty⟩) := by unfold PN.step PN.act; rw [if_neg (fun e => e.elim z3 z4)]; rw [if_neg z5]; rw [if_neg z6]; rw [if_neg z7]; rw [if_neg z8]; rw [if_pos hl]
                clear hrd hN
                go_enter Try.func10, Try.ntmps10
                go_wp2_with fail
                refine hc.mono ?_
                rintro o w1 ⟨rfl, hw⟩
                clear hc
                go_wp2_with fail
                go_ret3
                rw [hs]
                exact ⟨Did.none _ _ 40 _, hup.below hw, hF.bl hw hBw0⟩
              | true =>
                have hl0 : ¬ isLk x y = false := by rw [hl]; decide
                by_cases h8 : 8192 < bl
                · skip
                  have hc := Send_long (p := bq) (c := bc) hN hl h8
                  have hs : m.step (⟨op, i, x, y, bq, bl, bc, s, xb⟩ : Nd) = (m, ⟨false, 4, ByteArray.empty⟩) := by unfold PN.step PN.act; rw [if_neg (fun e => e.elim z3 z4)]; rw [if_neg z5]; rw [if_neg z6]; rw [if_neg z7]; rw [if_neg z8]; rw [if_neg hl0]; rw [if_pos h8]
                  clear hrd hN
                  go_enter Try.func10, Try.ntmps10
                  go_wp2_with fail
                  refine hc.mono ?_
                  rintro o w1 ⟨rfl, hw⟩
                  clear hc
                  go_wp2_with fail
                  go_ret3
                  rw [hs]
                  exact ⟨Did.none _ _ 4 _, hup.below hw, hF.bl hw hBw0⟩
                · by_cases hf8 : (m.N x y).length < 8
                  · skip
                    have hc := Send_ok hN hn2 hx hy hl hf8 hrd (by omega)
                    have hs : m.step (⟨op, i, x, y, bq, bl, bc, s, xb⟩ : Nd) = ({ m with N := upN m.N x y (m.N x y ++ [strOfNums xb]) }, ⟨false, 0, ByteArray.empty⟩) := by unfold PN.step PN.act; rw [if_neg (fun e => e.elim z3 z4)]; rw [if_neg z5]; rw [if_neg z6]; rw [if_neg z7]; rw [if_neg z8]; rw [if_neg hl0]; rw [if_neg h8]; rw [if_pos hf8]
                    clear hrd hN
                    go_enter Try.func10, Try.ntmps10
                    go_wp2_with fail
                    refine hc.mono ?_
                    rintro o w1 ⟨rfl, ⟨v, hNz⟩, hw2⟩
                    clear hc
                    go_wp2_with fail
                    go_ret3
                    rw [hs]
                    exact ⟨Did.none _ _ 0 _, ⟨⟨_, hNz⟩, few_up few x y _ (by rw [List.length_append, List.length_singleton]; omega), sd, by dsimp only; omega⟩, hF.trans hw2⟩
                  · skip
                    have hc := Send_full hN hx hy hl (by omega) hrd (by omega) (by omega)
                    have hs : m.step (⟨op, i, x, y, bq, bl, bc, s, xb⟩ : Nd) = ({ m with lost := m.lost + 1 }, ⟨false, 7, ByteArray.empty⟩) := by unfold PN.step PN.act; rw [if_neg (fun e => e.elim z3 z4)]; rw [if_neg z5]; rw [if_neg z6]; rw [if_neg z7]; rw [if_neg z8]; rw [if_neg hl0]; rw [if_neg h8]; rw [if_neg hf8]
                    clear hrd hN
                    go_enter Try.func10, Try.ntmps10
                    go_wp2_with fail
                    refine hc.mono ?_
                    rintro o w1 ⟨rfl, hNz, hw2⟩
                    clear hc
                    go_wp2_with fail
                    go_ret3
                    rw [hs]
                    exact ⟨Did.none _ _ 7 _, ⟨⟨_, hNz.up (Nat.le_succ n)⟩, few, sd, by dsimp only; omega⟩, hF.trans hw2⟩

end Go.Proofs.Ytmnipfdcbmamnaa.M
