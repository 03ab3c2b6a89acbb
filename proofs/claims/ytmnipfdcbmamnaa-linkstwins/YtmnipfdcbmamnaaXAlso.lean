/-
  Own text: also does by the document's Net what the plain words say.
-/
import Derived.Test.YtmnipfdcbmamnaaXPl
namespace Go.Proofs.Ytmnipfdcbmamnaa.M
open Go.ChangeShapes Go.WideShapes Go.ChangeAt Go.RowKit Go.ChangeMaps Go.MapKept Go.Maps

set_option linter.unusedVariables false in
set_option maxRecDepth 20000 in
set_option maxHeartbeats 8000000 in
theorem also_rest {w : World} {gx n : Nat} {m : PN} {op i x y : Int} {bq : Option Addr} {bl bc : Nat} {s : Int} {xb : List Int} {p : Option Addr} {n0 c : Nat} {its : List It} (hX : XB (w.alloc (.cells #[.int .i64 op, .int .i64 i, .int .i64 x, .int .i64 y, .slice bq bl bc, .int .u64 s] 37)) gx p n0 c (bitL m.side) m.lost its) (hk0 : n0 ≤ n) (hn : n ≤ 1000) (hI : ∀ x y, itN its x y = m.N x y) (hlo : 0 ≤ m.lost ∧ m.lost ≤ 1000) (hba : Below w.heap.size w (w.alloc (.cells #[.int .i64 op, .int .i64 i, .int .i64 x, .int .i64 y, .slice bq bl bc, .int .u64 s] 37))) (hE : Ex gx w (w.alloc (.cells #[.int .i64 op, .int .i64 i, .int .i64 x, .int .i64 y, .slice bq bl bc, .int .u64 s] 37))) (hup : XS (w.alloc (.cells #[.int .i64 op, .int .i64 i, .int .i64 x, .int .i64 y, .slice bq bl bc, .int .u64 s] 37)) gx (n + 1) m) (hrd : Rd .u8 (w.alloc (.cells #[.int .i64 op, .int .i64 i, .int .i64 x, .int .i64 y, .slice bq bl bc, .int .u64 s] 37)) bq bl bc xb) (hsw : (Lit.int .u64 s).wf = true)
    (c0 : (w.alloc (.cells #[.int .i64 op, .int .i64 i, .int .i64 x, .int .i64 y, .slice bq bl bc, .int .u64 s] 37)).cell? ⟨w.heap.size, 0, none⟩ = some (.int .i64 op)) (c1 : (w.alloc (.cells #[.int .i64 op, .int .i64 i, .int .i64 x, .int .i64 y, .slice bq bl bc, .int .u64 s] 37)).cell? ⟨w.heap.size, 1, none⟩ = some (.int .i64 i)) (c2 : (w.alloc (.cells #[.int .i64 op, .int .i64 i, .int .i64 x, .int .i64 y, .slice bq bl bc, .int .u64 s] 37)).cell? ⟨w.heap.size, 2, none⟩ = some (.int .i64 x)) (c3 : (w.alloc (.cells #[.int .i64 op, .int .i64 i, .int .i64 x, .int .i64 y, .slice bq bl bc, .int .u64 s] 37)).cell? ⟨w.heap.size, 3, none⟩ = some (.int .i64 y)) (c4 : (w.alloc (.cells #[.int .i64 op, .int .i64 i, .int .i64 x, .int .i64 y, .slice bq bl bc, .int .u64 s] 37)).cell? ⟨w.heap.size, 4, none⟩ = some (.slice bq bl bc)) (c5 : (w.alloc (.cells #[.int .i64 op, .int .i64 i, .int .i64 x, .int .i64 y, .slice bq bl bc, .int .u64 s] 37)).cell? ⟨w.heap.size, 5, none⟩ = some (.int .u64 s))
    (z3 : ¬ wrap64 ((IntKind.u64.wrap op).tmod 9) = 3) (z4 : ¬ wrap64 ((IntKind.u64.wrap op).tmod 9) = 4) (z5 : ¬ wrap64 ((IntKind.u64.wrap op).tmod 9) = 5) (z6 : ¬ wrap64 ((IntKind.u64.wrap op).tmod 9) = 6) (q3 : (wrap64 ((IntKind.u64.wrap op).tmod 9) == 3) = false) (q4 : (wrap64 ((IntKind.u64.wrap op).tmod 9) == 4) = false) (q5 : (wrap64 ((IntKind.u64.wrap op).tmod 9) == 5) = false) (q6 : (wrap64 ((IntKind.u64.wrap op).tmod 9) == 6) = false) :
    Calls Try.prog 11 #[.pointer (some ⟨gx, 0, none⟩), .agg #[.int .i64 op, .int .i64 i, .int .i64 x, .int .i64 y, .slice bq bl bc, .int .u64 s]] w fun o w' => o = .returned (aV (m.step (⟨op, i, x, y, bq, bl, bc, s, xb⟩ : Nd)).2) ∧ XS w' gx (n + 1) (m.step (⟨op, i, x, y, bq, bl, bc, s, xb⟩ : Nd)).1 ∧ Ex gx w w' := by
  have hn0 : n0 ≤ 1000000 := by omega
  have hlen := hX.rd.len
  have hIl : (itN its x y).length = (m.N x y).length := by rw [hI]
  cases q7 : (wrap64 ((IntKind.u64.wrap op).tmod 9) == 7) with
  | true =>
    have z7 := eq_of_beq q7
    obtain ⟨s', rfl, hs9⟩ : ∃ s' : Nat, s = s' ∧ s' < 18446744073709551616 := by
      have := u64_wf hsw
      exact ⟨s.toNat, by omega, by omega⟩
    have hc := from_any s' (w.alloc (.cells #[.int .i64 op, .int .i64 i, .int .i64 x, .int .i64 y, .slice bq bl bc, .int .u64 s'] 37)) hs9
    have hs : m.step (⟨op, i, x, y, bq, bl, bc, (s' : Int), xb⟩ : Nd) = ({ m with side := s' }, ⟨false, 0, ByteArray.empty⟩) := by unfold PN.step PN.act; rw [if_neg (fun e => e.elim z3 z4)]; rw [if_neg z5]; rw [if_neg z6]; rw [if_pos z7]; rfl
    have hi := info_side (bitL s') (bitL_len s')
    clear hrd hsw
    go_enter Try.func11, Try.ntmps11
    go_wp2_with fail
    refine hc.mono ?_
    rintro o w1 ⟨rfl, hw⟩
    clear hc
    have hX1 := hX.below hw
    have ht := hX1.there (bitL_len s')
    have hz := hX1.wall (bitL_len s')
    have hez : Ex gx w (w1.setCells gx 1 (bools (bitL s')).toList) := ex_setCells _ 1 _ (hE.trans (Ex.of_below hw))
    clear hX hX1 hw hE
    go_wp2_with (refine wpList_store_mid rfl 29 _ _ rfl gx 1 (bools (bitL s')) rfl rfl ht hi (bools_one _) ?_)
    go_ret3
    rw [hs]
    exact ⟨rfl, ⟨⟨_, _, _, _, hz, by omega, hI⟩⟩, hez⟩
  | false =>
    have z7 := ne_of_beq_false q7
    cases q8 : (wrap64 ((IntKind.u64.wrap op).tmod 9) == 8) with
    | true =>
      have z8 := eq_of_beq q8
      have hc := rForget_any hX hn0 i
      have hs : m.step (⟨op, i, x, y, bq, bl, bc, s, xb⟩ : Nd) = ({ m with N := clrN m.N i }, ⟨false, 0, ByteArray.empty⟩) := by unfold PN.step PN.act; rw [if_neg (fun e => e.elim z3 z4)]; rw [if_neg z5]; rw [if_neg z6]; rw [if_neg z7]; rw [if_pos z8]
      clear hrd hX
      go_enter Try.func11, Try.ntmps11
      go_wp2_with fail
      refine hc.mono ?_
      rintro o w1 ⟨rfl, ⟨q, d, hz⟩, hw2⟩
      clear hc
      go_wp2_with fail
      go_ret3
      rw [hs]
      exact ⟨rfl, ⟨⟨_, _, _, _, hz, (by have := fgI_len i its; omega), fun x' y' => itN_fg hI i x' y'⟩⟩, hE.trans hw2⟩
    | false =>
      have z8 := ne_of_beq_false q8
      cases hl : isLk x y with
      | false =>
        have hc := rSend_link (w.alloc (.cells #[.int .i64 op, .int .i64 i, .int .i64 x, .int .i64 y, .slice bq bl bc, .int .u64 s] 37)) gx hl bq bl bc
        have hs : m.step (⟨op, i, x, y, bq, bl, bc, s, xb⟩ : Nd) = (m, ⟨false, 40, ByteArray.empty⟩) := by unfold PN.step PN.act; rw [if_neg (fun e => e.elim z3 z4)]; rw [if_neg z5]; rw [if_neg z6]; rw [if_neg z7]; rw [if_neg z8]; rw [if_pos hl]
        clear hrd hX
        go_enter Try.func11, Try.ntmps11
        go_wp2_with fail
        refine hc.mono ?_
        rintro o w1 ⟨rfl, hw⟩
        clear hc
        go_wp2_with fail
        go_ret3
        rw [hs]
        exact ⟨rfl, hup.below hw, hE.trans (Ex.of_below hw)⟩
      | true =>
        have hl0 : ¬ isLk x y = false := by rw [hl]; decide
        by_cases h8 : 8192 < bl
        · skip
          have hc := rSend_long (w.alloc (.cells #[.int .i64 op, .int .i64 i, .int .i64 x, .int .i64 y, .slice bq bl bc, .int .u64 s] 37)) gx hl bq bl bc h8
          have hs : m.step (⟨op, i, x, y, bq, bl, bc, s, xb⟩ : Nd) = (m, ⟨false, 4, ByteArray.empty⟩) := by unfold PN.step PN.act; rw [if_neg (fun e => e.elim z3 z4)]; rw [if_neg z5]; rw [if_neg z6]; rw [if_neg z7]; rw [if_neg z8]; rw [if_neg hl0]; rw [if_pos h8]
          clear hrd hX
          go_enter Try.func11, Try.ntmps11
          go_wp2_with fail
          refine hc.mono ?_
          rintro o w1 ⟨rfl, hw⟩
          clear hc
          go_wp2_with fail
          go_ret3
          rw [hs]
          exact ⟨rfl, hup.below hw, hE.trans (Ex.of_below hw)⟩
        · by_cases hf8 : (m.N x y).length < 8
          · skip
            have hc := rSend_ok hX hn0 hl bq bl bc hrd (by omega) (by omega)
            have hs : m.step (⟨op, i, x, y, bq, bl, bc, s, xb⟩ : Nd) = ({ m with N := upN m.N x y (m.N x y ++ [strOfNums xb]) }, ⟨false, 0, ByteArray.empty⟩) := by unfold PN.step PN.act; rw [if_neg (fun e => e.elim z3 z4)]; rw [if_neg z5]; rw [if_neg z6]; rw [if_neg z7]; rw [if_neg z8]; rw [if_neg hl0]; rw [if_neg h8]; rw [if_pos hf8]
            clear hrd hX
            go_enter Try.func11, Try.ntmps11
            go_wp2_with fail
            refine hc.mono ?_
            rintro o w1 ⟨rfl, ⟨q, mm, d, hz⟩, hw2⟩
            clear hc
            go_wp2_with fail
            go_ret3
            rw [hs]
            exact ⟨rfl, ⟨⟨_, _, _, _, hz, (by have := hz.rd.len; rw [List.length_append, List.length_singleton] at this; omega), fun x' y' => itN_snoc hI (onL_iff.2 ⟨rfl, rfl⟩) x' y'⟩⟩, hE.trans hw2⟩
          · skip
            have hc := rSend_full hX hn0 hl bq bl bc (by omega) (by omega) (by omega)
            have hs : m.step (⟨op, i, x, y, bq, bl, bc, s, xb⟩ : Nd) = ({ m with lost := m.lost + 1 }, ⟨false, 7, ByteArray.empty⟩) := by unfold PN.step PN.act; rw [if_neg (fun e => e.elim z3 z4)]; rw [if_neg z5]; rw [if_neg z6]; rw [if_neg z7]; rw [if_neg z8]; rw [if_neg hl0]; rw [if_neg h8]; rw [if_neg hf8]
            clear hrd hX
            go_enter Try.func11, Try.ntmps11
            go_wp2_with fail
            refine hc.mono ?_
            rintro o w1 ⟨rfl, hz, hw2⟩
            clear hc
            go_wp2_with fail
            go_ret3
            rw [hs]
            exact ⟨rfl, ⟨⟨_, _, _, _, hz, by omega, hI⟩⟩, hE.trans hw2⟩

set_option linter.unusedVariables false in
set_option maxRecDepth 20000 in
set_option maxHeartbeats 8000000 in
theorem also_any {w : World} {gx n : Nat} {m : PN} (h : XS w gx n m) (hn : n ≤ 1000) (hLk : Lks m) (hlo : 0 ≤ m.lost ∧ m.lost ≤ 1000) (op i x y : Int) (bq : Option Addr) (bl bc : Nat) (s : Int) (xb : List Int) (hk : Nd.rd w (⟨op, i, x, y, bq, bl, bc, s, xb⟩ : Nd)) :
    Calls Try.prog 11 #[.pointer (some ⟨gx, 0, none⟩), .agg #[.int .i64 op, .int .i64 i, .int .i64 x, .int .i64 y, .slice bq bl bc, .int .u64 s]] w fun o w' => o = .returned (aV (m.step (⟨op, i, x, y, bq, bl, bc, s, xb⟩ : Nd)).2) ∧ XS w' gx (n + 1) (m.step (⟨op, i, x, y, bq, bl, bc, s, xb⟩ : Nd)).1 ∧ Ex gx w w' := by
  have hba := below_alloc w (.cells #[.int .i64 op, .int .i64 i, .int .i64 x, .int .i64 y, .slice bq bl bc, .int .u64 s] 37)
  have hA := At.new 37 w #[.int .i64 op, .int .i64 i, .int .i64 x, .int .i64 y, .slice bq bl bc, .int .u64 s]
  obtain ⟨c0, c1, c2, c3, c4, c5⟩ := hA.six
  have hup := (h.below hba).up
  obtain ⟨p, n0, c, its, hX, hk0, hI⟩ := (h.below hba).so
  have hn0 : n0 ≤ 1000000 := by omega
  have hE : Ex gx w (w.alloc (.cells #[.int .i64 op, .int .i64 i, .int .i64 x, .int .i64 y, .slice bq bl bc, .int .u64 s] 37)) := Ex.of_below hba
  have hlen := hX.rd.len
  obtain ⟨hrd, _, _, _, hx, hy, hsw⟩ := hk
  replace hsw : (Lit.int .u64 s).wf = true := hsw
  replace hrd : Rd .u8 w bq bl bc xb := hrd
  replace hrd := hrd.below hba
  have hIl : (itN its x y).length = (m.N x y).length := by rw [hI]
  rcases pl_cases hI x y i with ⟨hp, hi⟩ | ⟨a, hp, hi, ha, ho, hm, her⟩
  · cases q3 : (wrap64 ((IntKind.u64.wrap op).tmod 9) == 3) with
    | true =>
      have z3 := eq_of_beq q3
      have hc := rTake_no hX hn0 x y i hp
      have hs : m.step (⟨op, i, x, y, bq, bl, bc, s, xb⟩ : Nd) = (m, ⟨false, 40, ByteArray.empty⟩) := by unfold PN.step PN.act; rw [if_pos (Or.inl z3)]; rw [if_neg hi]
      clear hrd hX
      go_enter Try.func11, Try.ntmps11
      go_wp2_with fail
      refine hc.mono ?_
      rintro o w1 ⟨rfl, hw⟩
      clear hc
      go_wp2_with fail
      go_ret3
      rw [hs]
      exact ⟨rfl, hup.below hw, hE.trans (Ex.of_below hw)⟩
    | false =>
      have z3 := ne_of_beq_false q3
      cases q4 : (wrap64 ((IntKind.u64.wrap op).tmod 9) == 4) with
      | true =>
        have z4 := eq_of_beq q4
        have hc := rTake_no hX hn0 x y i hp
        have hs : m.step (⟨op, i, x, y, bq, bl, bc, s, xb⟩ : Nd) = (m, ⟨false, 40, ByteArray.empty⟩) := by unfold PN.step PN.act; rw [if_pos (Or.inr z4)]; rw [if_neg hi]
        clear hrd hX
        go_enter Try.func11, Try.ntmps11
        go_wp2_with fail
        refine hc.mono ?_
        rintro o w1 ⟨rfl, hw⟩
        clear hc
        go_wp2_with fail
        go_ret3
        rw [hs]
        exact ⟨rfl, hup.below hw, hE.trans (Ex.of_below hw)⟩
      | false =>
        have z4 := ne_of_beq_false q4
        cases q5 : (wrap64 ((IntKind.u64.wrap op).tmod 9) == 5) with
        | true =>
          have z5 := eq_of_beq q5
          have hc := rLose_no hX hn0 x y i hp
          have hs : m.step (⟨op, i, x, y, bq, bl, bc, s, xb⟩ : Nd) = (m, ⟨false, 40, ByteArray.empty⟩) := by unfold PN.step PN.act; rw [if_neg (fun e => e.elim z3 z4)]; rw [if_pos z5]; rw [if_neg hi]
          clear hrd hX
          go_enter Try.func11, Try.ntmps11
          go_wp2_with fail
          refine hc.mono ?_
          rintro o w1 ⟨rfl, hw⟩
          clear hc
          go_wp2_with fail
          go_ret3
          rw [hs]
          exact ⟨rfl, hup.below hw, hE.trans (Ex.of_below hw)⟩
        | false =>
          have z5 := ne_of_beq_false q5
          cases q6 : (wrap64 ((IntKind.u64.wrap op).tmod 9) == 6) with
          | true =>
            have z6 := eq_of_beq q6
            have hc := rDouble_no hX hn0 x y i hp
            have hs : m.step (⟨op, i, x, y, bq, bl, bc, s, xb⟩ : Nd) = (m, ⟨false, 40, ByteArray.empty⟩) := by unfold PN.step PN.act; rw [if_neg (fun e => e.elim z3 z4)]; rw [if_neg z5]; rw [if_pos z6]; rw [if_neg hi]
            clear hrd hX
            go_enter Try.func11, Try.ntmps11
            go_wp2_with fail
            refine hc.mono ?_
            rintro o w1 ⟨rfl, hw⟩
            clear hc
            go_wp2_with fail
            go_ret3
            rw [hs]
            exact ⟨rfl, hup.below hw, hE.trans (Ex.of_below hw)⟩
          | false =>
            have z6 := ne_of_beq_false q6
            exact also_rest hX hk0 hn hI hlo hba hE hup hrd hsw c0 c1 c2 c3 c4 c5 z3 z4 z5 z6 q3 q4 q5 q6
  · cases q3 : (wrap64 ((IntKind.u64.wrap op).tmod 9) == 3) with
    | true =>
      have z3 := eq_of_beq q3
      obtain ⟨X, Y, rfl, rfl, hX64, hY64⟩ := lk_nat (hLk x y (fun e => by rw [e] at hi; have := hi.2; simp at this; omega))
      have hc := rTake_yes hX hn0 X Y hX64 hY64 i hp
      have hs : m.step (⟨op, i, (X : Int), (Y : Int), bq, bl, bc, s, xb⟩ : Nd) = ({ m with N := upN m.N X Y ((m.N X Y).eraseIdx i.toNat) }, ⟨opn m.side X Y, 0, (m.N X Y).getD i.toNat ByteArray.empty⟩) := by unfold PN.step PN.act; rw [if_pos (Or.inl z3)]; rw [if_pos hi]
      clear hrd hX
      go_enter Try.func11, Try.ntmps11
      go_wp2_with fail
      refine hc.mono ?_
      rintro o w1 ⟨rfl, ⟨q, mm, d, hz⟩, hw2⟩
      rw [tk_eq hX64 hY64, hm]
      obtain ⟨r1, r2, hr⟩ : ∃ (r1 : ByteArray) (r2 : Bool), aV ⟨opn m.side X Y, 0, (m.N X Y).getD i.toNat ByteArray.empty⟩ = .tuple #[.string r1, .bool r2, .int .i64 0] := ⟨_, _, rfl⟩
      rw [hr]
      have HR : Hid (aV ⟨opn m.side X Y, 0, (m.N X Y).getD i.toNat ByteArray.empty⟩ = .tuple #[.string r1, .bool r2, .int .i64 0]) := hr
      clear hr
      clear hc
      go_wp2_with fail
      go_ret3
      rw [hs]
      exact ⟨congrArg Ending.returned HR.out.symm, ⟨⟨_, _, _, _, hz, (by have := hz.rd.len; rw [List.length_eraseIdx, if_pos ha] at this; omega), her⟩⟩, hE.trans hw2⟩
    | false =>
      have z3 := ne_of_beq_false q3
      cases q4 : (wrap64 ((IntKind.u64.wrap op).tmod 9) == 4) with
      | true =>
        have z4 := eq_of_beq q4
        obtain ⟨X, Y, rfl, rfl, hX64, hY64⟩ := lk_nat (hLk x y (fun e => by rw [e] at hi; have := hi.2; simp at this; omega))
        have hc := rTake_yes hX hn0 X Y hX64 hY64 i hp
        have hs : m.step (⟨op, i, (X : Int), (Y : Int), bq, bl, bc, s, xb⟩ : Nd) = ({ m with N := upN m.N X Y ((m.N X Y).eraseIdx i.toNat) }, ⟨opn m.side X Y, 0, (m.N X Y).getD i.toNat ByteArray.empty⟩) := by unfold PN.step PN.act; rw [if_pos (Or.inr z4)]; rw [if_pos hi]
        clear hrd hX
        go_enter Try.func11, Try.ntmps11
        go_wp2_with fail
        refine hc.mono ?_
        rintro o w1 ⟨rfl, ⟨q, mm, d, hz⟩, hw2⟩
        rw [tk_eq hX64 hY64, hm]
        obtain ⟨r1, r2, hr⟩ : ∃ (r1 : ByteArray) (r2 : Bool), aV ⟨opn m.side X Y, 0, (m.N X Y).getD i.toNat ByteArray.empty⟩ = .tuple #[.string r1, .bool r2, .int .i64 0] := ⟨_, _, rfl⟩
        rw [hr]
        have HR : Hid (aV ⟨opn m.side X Y, 0, (m.N X Y).getD i.toNat ByteArray.empty⟩ = .tuple #[.string r1, .bool r2, .int .i64 0]) := hr
        clear hr
        clear hc
        go_wp2_with fail
        go_ret3
        rw [hs]
        exact ⟨congrArg Ending.returned HR.out.symm, ⟨⟨_, _, _, _, hz, (by have := hz.rd.len; rw [List.length_eraseIdx, if_pos ha] at this; omega), her⟩⟩, hE.trans hw2⟩
      | false =>
        have z4 := ne_of_beq_false q4
        cases q5 : (wrap64 ((IntKind.u64.wrap op).tmod 9) == 5) with
        | true =>
          have z5 := eq_of_beq q5
          have hc := rLose_yes hX hn0 x y i hp
          have hs : m.step (⟨op, i, x, y, bq, bl, bc, s, xb⟩ : Nd) = ({ m with N := upN m.N x y ((m.N x y).eraseIdx i.toNat) }, ⟨false, 0, ByteArray.empty⟩) := by unfold PN.step PN.act; rw [if_neg (fun e => e.elim z3 z4)]; rw [if_pos z5]; rw [if_pos hi]
          clear hrd hX
          go_enter Try.func11, Try.ntmps11
          go_wp2_with fail
          refine hc.mono ?_
          rintro o w1 ⟨rfl, ⟨q, mm, d, hz⟩, hw2⟩
          clear hc
          go_wp2_with fail
          go_ret3
          rw [hs]
          exact ⟨rfl, ⟨⟨_, _, _, _, hz, (by have := hz.rd.len; rw [List.length_eraseIdx, if_pos ha] at this; omega), her⟩⟩, hE.trans hw2⟩
        | false =>
          have z5 := ne_of_beq_false q5
          cases q6 : (wrap64 ((IntKind.u64.wrap op).tmod 9) == 6) with
          | true =>
            have z6 := eq_of_beq q6
            by_cases hf8 : (m.N x y).length < 8
            · skip
              have hc := rDouble_ok hX hn0 x y i hp (by omega)
              have hs : m.step (⟨op, i, x, y, bq, bl, bc, s, xb⟩ : Nd) = ({ m with N := upN m.N x y (m.N x y ++ [(m.N x y).getD i.toNat ByteArray.empty]) }, ⟨false, 0, ByteArray.empty⟩) := by unfold PN.step PN.act; rw [if_neg (fun e => e.elim z3 z4)]; rw [if_neg z5]; rw [if_pos z6]; rw [if_pos hi]; rw [if_pos hf8]
              clear hrd hX
              go_enter Try.func11, Try.ntmps11
              go_wp2_with fail
              refine hc.mono ?_
              rintro o w1 ⟨rfl, ⟨q, mm, d, hz⟩, hw2⟩
              clear hc
              go_wp2_with fail
              go_ret3
              rw [hs]
              refine ⟨rfl, ⟨⟨_, _, _, _, hz, (by have := hz.rd.len; rw [List.length_append, List.length_singleton] at this; omega), fun x' y' => ?_⟩⟩, hE.trans hw2⟩
              rw [itN_snoc hI ho, hm]
            · skip
              have hc := rDouble_full hX hn0 x y i hp (by omega)
              have hs : m.step (⟨op, i, x, y, bq, bl, bc, s, xb⟩ : Nd) = (m, ⟨false, 7, ByteArray.empty⟩) := by unfold PN.step PN.act; rw [if_neg (fun e => e.elim z3 z4)]; rw [if_neg z5]; rw [if_pos z6]; rw [if_pos hi]; rw [if_neg hf8]
              clear hrd hX
              go_enter Try.func11, Try.ntmps11
              go_wp2_with fail
              refine hc.mono ?_
              rintro o w1 ⟨rfl, hw⟩
              clear hc
              go_wp2_with fail
              go_ret3
              rw [hs]
              exact ⟨rfl, hup.below hw, hE.trans (Ex.of_below hw)⟩
          | false =>
            have z6 := ne_of_beq_false q6
            exact also_rest hX hk0 hn hI hlo hba hE hup hrd hsw c0 c1 c2 c3 c4 c5 z3 z4 z5 z6 q3 q4 q5 q6

end Go.Proofs.Ytmnipfdcbmamnaa.M
