/-
  Own text: the walk of the statement 'LedgerOnce'.
-/
import Derived.Test.YtcnkpgbmegppbaaJBig
namespace Go.Proofs.Ytcnkpgbmegppbaa.M
open Go.ChangeShapes Go.WideShapes Go.ChangeAt Go.RowKit

theorem app_at {s : PL} (i : Int) (xs : List Int) : (s.app i xs).2.at_ = s.at_ ∨ (s.app i xs).2.at_ = s.at_ + 1 := by
  unfold PL.app
  split
  · next h =>
    right
    split
    · exact h.1
    · rw [← h.1]
      match getR xs with
      | none => rfl
      | some (k, nd, st, ep) =>
        unfold PL.cmd
        dsimp only
        split
        · match chR k nd st s.e s.ms with
          | .error er => rfl
          | .ok (e', ms') => rfl
        · rfl
  · exact Or.inl rfl

theorem playJ_at {s : PL} (h : s.ok) (ls : List Dj) : ∀ k : Nat, (playJ s ls k).at_ ≤ s.at_ + k
  | 0 => by show s.at_ ≤ _; omega
  | k + 1 => by
    have h1 := playJ_at h ls k
    have h2 := app_at (s := playJ s ls k) (ixR (ls.getD k .z0) (playJ s ls k).at_) (dataR (ls.getD k .z0) (playJ s ls k).e)
    have e : playJ s ls (k + 1) = ((playJ s ls k).app (ixR (ls.getD k .z0) (playJ s ls k).at_) (dataR (ls.getD k .z0) (playJ s ls k).e)).2 := rfl
    rw [e]
    rcases h2 with h2 | h2 <;> omega

/-- A command that made a new epoch makes none once more. -/
theorem once_pure {s : PL} (h : s.ok) (ha : s.at_ ≤ 1000) (L : List Int) :
    (((s.app (s.at_ + 1) L).1 = 0 ∧ s.e < (s.app (s.at_ + 1) L).2.e) ∧ (s.app (s.at_ + 1) L).2.e = s.e + 1 ∧ (s.app (s.at_ + 1) L).2.at_ = s.at_ + 1 ∧ ((s.app (s.at_ + 1) L).2.app (s.at_ + 1 + 1) L).1 = 150 ∧ ((s.app (s.at_ + 1) L).2.app (s.at_ + 1 + 1) L).2.e = s.e + 1) ∨
    (¬ ((s.app (s.at_ + 1) L).1 = 0 ∧ s.e < (s.app (s.at_ + 1) L).2.e) ∧ (s.app (s.at_ + 1) L).2.e = s.e) := by
  have hn : ∀ y : Int × PL, y.2.e = s.e → ¬ (y.1 = 0 ∧ s.e < y.2.e) ∧ y.2.e = s.e := fun y hy => ⟨fun h => by omega, hy⟩
  have hi : s.at_ + 1 = s.at_ + 1 ∧ s.at_ + 1 ≤ 1099511627776 := ⟨rfl, by omega⟩
  by_cases hL : L = []
  · right
    refine hn _ ?_
    unfold PL.app
    rw [if_pos hi, if_pos hL]
  have e1 : s.app (s.at_ + 1) L = s.cmd (s.at_ + 1) (getR L) := by unfold PL.app; rw [if_pos hi, if_neg hL]
  rw [e1]
  match hR : getR L with
  | none => exact Or.inr (hn _ rfl)
  | some (k, nd, st, ep) =>
    by_cases hep : ep = s.e
    · have e2 : s.cmd (s.at_ + 1) (some (k, nd, st, ep)) = s.ch (s.at_ + 1) (chR k nd st s.e s.ms) := if_pos hep
      rw [e2]
      match hc : chR k nd st s.e s.ms with
      | .error er => exact Or.inr (hn _ rfl)
      | .ok (e', ms') =>
        obtain ⟨_, g2⟩ := chR_chk h.chk hc
        rcases g2 with g2 | g2
        · exact Or.inr (hn _ g2)
        · left
          have e3 : (s.ch (s.at_ + 1) (.ok (e', ms'))).2.app (s.at_ + 1 + 1) L = (150, { (s.ch (s.at_ + 1) (.ok (e', ms'))).2 with at_ := s.at_ + 1 + 1 }) := by
            unfold PL.app
            rw [if_pos ⟨rfl, by omega⟩, if_neg hL, hR]
            exact if_neg (fun h => by have h' : ep = e' := h; omega)
          rw [e3]
          refine ⟨⟨rfl, ?_⟩, g2, rfl, rfl, g2⟩
          show s.e < e'
          omega
    · have e2 : s.cmd (s.at_ + 1) (some (k, nd, st, ep)) = (150, { s with at_ := s.at_ + 1 }) := if_neg hep
      rw [e2]
      exact Or.inr (hn _ rfl)

set_option linter.unusedSimpArgs false in
set_option maxRecDepth 20000 in
set_option maxHeartbeats 8000000 in
theorem walk_LedgerOnce (w : World) (p : Option Addr) (n c : Nat) (ms : List Mb) (hm : RdM w p n c ms) (q : Option Addr) (m d : Nat) (ls : List Dj) (h : RdJ w q m d ls) (xk xn xs xe : Int) (bq : Option Addr) (bl bc : Nat) (raw : Bool) (by_ off : Int) (xb : List Int) (hx : Dj.rd w ⟨xk, xn, xs, xe, bq, bl, bc, raw, by_, off, xb⟩) :
    Calls Try.prog 5 #[.slice p n c, .slice q m d, .agg #[.int .i64 xk, .int .i64 xn, .int .i64 xs, .int .i64 xe, .slice bq bl bc, .bool raw, .int .i64 by_, .int .i64 off]] w fun r w' => r = .returned (.bool true) ∧ Below w.heap.size w w' := by
  have hW := fun W => awake_any W
  have h0b := below_alloc w (.cells #[.int .i64 xk, .int .i64 xn, .int .i64 xs, .int .i64 xe, .slice bq bl bc, .bool raw, .int .i64 by_, .int .i64 off] 57)
  by_cases hnm : 60 < n
  · have hni : (60 : Int) < (n : Int) := by omega
    have HB := h0b
    clear hm h hx
    go_enter Try.func5, Try.ntmps5
    go_wp2_with fail
    refine (hW _).mono ?_
    rintro o w9 ⟨rfl, hb9⟩
    go_wp2_with fail
    go_ret
    exact ⟨rfl, HB.trans (hb9.mono HB.size)⟩
  have hni : ¬ (60 : Int) < (n : Int) := by omega
  have hdn : decide ((60 : Int) < (n : Int)) = false := decide_eq_false hni
  have h1b := below_alloc (w.alloc (.cells #[.int .i64 xk, .int .i64 xn, .int .i64 xs, .int .i64 xe, .slice bq bl bc, .bool raw, .int .i64 by_, .int .i64 off] 57)) (.cells #[.int .i64 xk, .int .i64 xn, .int .i64 xs, .int .i64 xe, .slice bq bl bc, .bool raw, .int .i64 by_, .int .i64 off] 57)
  have h2b := below_alloc ((w.alloc (.cells #[.int .i64 xk, .int .i64 xn, .int .i64 xs, .int .i64 xe, .slice bq bl bc, .bool raw, .int .i64 by_, .int .i64 off] 57)).alloc (.cells #[.int .i64 xk, .int .i64 xn, .int .i64 xs, .int .i64 xe, .slice bq bl bc, .bool raw, .int .i64 by_, .int .i64 off] 57)) (.cells #[.slice q m d, .slice (some ⟨w.heap.size + 1, 0, none⟩) 1 1] 35)
  have hA0 := At.new 57 w #[.int .i64 xk, .int .i64 xn, .int .i64 xs, .int .i64 xe, .slice bq bl bc, .bool raw, .int .i64 by_, .int .i64 off]
  have hA1 := At.moved (g2 := w.heap.size + 1) (by simp) (At.new 57 (w.alloc (.cells #[.int .i64 xk, .int .i64 xn, .int .i64 xs, .int .i64 xe, .slice bq bl bc, .bool raw, .int .i64 by_, .int .i64 off] 57)) #[.int .i64 xk, .int .i64 xn, .int .i64 xs, .int .i64 xe, .slice bq bl bc, .bool raw, .int .i64 by_, .int .i64 off])
  have hA2 := At.moved (g2 := w.heap.size + 1 + 1) (by simp) (At.new 35 ((w.alloc (.cells #[.int .i64 xk, .int .i64 xn, .int .i64 xs, .int .i64 xe, .slice bq bl bc, .bool raw, .int .i64 by_, .int .i64 off] 57)).alloc (.cells #[.int .i64 xk, .int .i64 xn, .int .i64 xs, .int .i64 xe, .slice bq bl bc, .bool raw, .int .i64 by_, .int .i64 off] 57)) #[.slice q m d, .slice (some ⟨w.heap.size + 1, 0, none⟩) 1 1])
  have hB1 := h0b.trans (h1b.mono h0b.size)
  have hB2 := hB1.trans (h2b.mono hB1.size)
  have hA02 := (hA0.below h1b).below h2b
  have hx2 : Dj.rd (((w.alloc (.cells #[.int .i64 xk, .int .i64 xn, .int .i64 xs, .int .i64 xe, .slice bq bl bc, .bool raw, .int .i64 by_, .int .i64 off] 57)).alloc (.cells #[.int .i64 xk, .int .i64 xn, .int .i64 xs, .int .i64 xe, .slice bq bl bc, .bool raw, .int .i64 by_, .int .i64 off] 57)).alloc (.cells #[.slice q m d, .slice (some ⟨w.heap.size + 1, 0, none⟩) 1 1] 35)) ⟨xk, xn, xs, xe, bq, bl, bc, raw, by_, off, xb⟩ := hx.below hB2
  have hl2 : RdJ (((w.alloc (.cells #[.int .i64 xk, .int .i64 xn, .int .i64 xs, .int .i64 xe, .slice bq bl bc, .bool raw, .int .i64 by_, .int .i64 off] 57)).alloc (.cells #[.int .i64 xk, .int .i64 xn, .int .i64 xs, .int .i64 xe, .slice bq bl bc, .bool raw, .int .i64 by_, .int .i64 off] 57)).alloc (.cells #[.slice q m d, .slice (some ⟨w.heap.size + 1, 0, none⟩) 1 1] 35)) q m d ls := h.below hB2
  have hat : Dj.at (((w.alloc (.cells #[.int .i64 xk, .int .i64 xn, .int .i64 xs, .int .i64 xe, .slice bq bl bc, .bool raw, .int .i64 by_, .int .i64 off] 57)).alloc (.cells #[.int .i64 xk, .int .i64 xn, .int .i64 xs, .int .i64 xe, .slice bq bl bc, .bool raw, .int .i64 by_, .int .i64 off] 57)).alloc (.cells #[.slice q m d, .slice (some ⟨w.heap.size + 1, 0, none⟩) 1 1] 35)) (w.heap.size + 1) 0 ⟨xk, xn, xs, xe, bq, bl, bc, raw, by_, off, xb⟩ := by have hA12 := hA1.below h2b; exact ⟨hA12.cell 0, hA12.cell 1, hA12.cell 2, hA12.cell 3, hA12.cell 4, hA12.cell 5, hA12.cell 6, hA12.cell 7⟩
  have hJJ : RdJJ (((w.alloc (.cells #[.int .i64 xk, .int .i64 xn, .int .i64 xs, .int .i64 xe, .slice bq bl bc, .bool raw, .int .i64 by_, .int .i64 off] 57)).alloc (.cells #[.int .i64 xk, .int .i64 xn, .int .i64 xs, .int .i64 xe, .slice bq bl bc, .bool raw, .int .i64 by_, .int .i64 off] 57)).alloc (.cells #[.slice q m d, .slice (some ⟨w.heap.size + 1, 0, none⟩) 1 1] 35)) (some ⟨w.heap.size + 1 + 1, 0, none⟩) 2 [ls, [⟨xk, xn, xs, xe, bq, bl, bc, raw, by_, off, xb⟩]] := RdJJ.two (hA2.cell 0) (hA2.cell 1) hl2 (RdJ.one hat hx2)
  have gS := short_any (((w.alloc (.cells #[.int .i64 xk, .int .i64 xn, .int .i64 xs, .int .i64 xe, .slice bq bl bc, .bool raw, .int .i64 by_, .int .i64 off] 57)).alloc (.cells #[.int .i64 xk, .int .i64 xn, .int .i64 xs, .int .i64 xe, .slice bq bl bc, .bool raw, .int .i64 by_, .int .i64 off] 57)).alloc (.cells #[.slice q m d, .slice (some ⟨w.heap.size + 1, 0, none⟩) 1 1] 35)) (some ⟨w.heap.size + 1 + 1, 0, none⟩) 2 2 [ls, [⟨xk, xn, xs, xe, bq, bl, bc, raw, by_, off, xb⟩]] hJJ (by decide)
  obtain ⟨R, HF, hR⟩ := first_is n ms hm.len (by omega)
  obtain ⟨c0, c1, c2, c3, c4, c5, c6, c7⟩ := (show Dj.at (w.alloc (.cells #[.int .i64 xk, .int .i64 xn, .int .i64 xs, .int .i64 xe, .slice bq bl bc, .bool raw, .int .i64 by_, .int .i64 off] 57)) w.heap.size 0 ⟨xk, xn, xs, xe, bq, bl, bc, raw, by_, off, xb⟩ from ⟨hA0.cell 0, hA0.cell 1, hA0.cell 2, hA0.cell 3, hA0.cell 4, hA0.cell 5, hA0.cell 6, hA0.cell 7⟩)
  simp only [Nat.zero_add] at c0 c1 c2 c3 c4 c5 c6 c7
  have hm2 := hm.below hB2
  have hbqlt : ∀ a, bq = some a → 0 < bl → a.block < w.heap.size := hx.b.lt8

  clear hm h hx hA0 hA1 hA2 hB1 h0b h1b h2b hat hJJ
  go_enter Try.func5, Try.ntmps5
  go_wp2_with fail
  refine gS.mono ?_
  rintro o w3 ⟨⟨bb, rfl, hbb⟩, hb3⟩
  have HB := hB2.trans (hb3.mono hB2.size)
  have hA3 := hA02.below hb3
  have hx3 := hx2.below hb3
  have hl3 := hl2.below hb3
  have hm3 := hm2.below hb3
  clear gS hb3 hA02 hx2 hl2 hm2 hB2 c0 c1 c2 c3 c4 c5 c6 c7
  cases bb with
  | false =>
    go_wp2_with fail
    refine (hW _).mono ?_
    rintro o w9 ⟨rfl, hb9⟩
    go_wp2_with fail
    go_ret
    exact ⟨rfl, HB.trans (hb9.mono HB.size)⟩
  | true =>
    have hsh := hbb rfl
    have hs1 := short_of hsh (j := 0) (by simp)
    have hs2 := short_of hsh (j := 1) (by simp)
    have hll : m ≤ 150 := by rw [← hl3.len]; exact hs1.1
    have hsm : Small ls := hs1.2
    have hbl : bl ≤ 4096 := hs2.2 0 (by simp)
    clear hbb hsh hs1 hs2
    rcases hR with rfl | ⟨M, rfl, hk, hMl⟩
    · have g1 := New_bad p n c ms w3 hm3 HF
      go_wp2_with fail
      refine g1.mono ?_
      rintro o w4 ⟨rfl, hb4⟩
      replace HB := HB.trans (hb4.mono HB.size)
      clear g1
      go_wp2_with fail
      refine (hW _).mono ?_
      rintro o w9 ⟨rfl, hb9⟩
      go_wp2_with fail
      go_ret
      exact ⟨rfl, HB.trans (hb9.mono HB.size)⟩
    have HMl : Hid (M.length = n) := hMl
    clear hMl
    have g1 := New_ok p n c ms w3 hm3 M HF
    have HFi : Hid (FirstIs n ms (.ok (1, M))) := HF
    clear HF
    go_wp2_with fail
    refine g1.mono ?_
    rintro o w4 ⟨v, rfl, g0, r0, rfl, _, _, _, hb4⟩
    have HB4 := HB.trans (hb4.mono HB.size)
    have hA4 := hA3.below hb4
    have hx4 := hx3.below hb4
    have g2 := made_law p n c ms w4 (hm3.below hb4) M HFi.out hk q m d ls (hl3.below hb4) hll hsm
    clear g1 hb4 hA3 hx3 hl3 hm3 HB HFi
    go_wp2_with fail
    refine g2.mono ?_
    rintro o w5 ⟨v, rfl, g, r, rfl, hL5, hg, hr, hb5⟩
    have HB5 := HB4.trans (hb5.mono HB4.size)
    have hA5 := hA4.below hb5
    have hx5 := hx4.below hb5
    have hgB : w.heap.size ≤ g := Nat.le_trans HB4.size hg
    have hrB : w.heap.size ≤ r := Nat.le_trans HB4.size hr
    have hxlt : w.heap.size < g ∧ w.heap.size < r := by have := hA4.lt; exact ⟨by omega, by omega⟩
    have hok : (playJ ⟨1, M, 0, [(1, M)]⟩ ls m).ok := playJ_ok (PL.first_ok hk) ls m
    have hat := playJ_at (s := ⟨1, M, 0, [(1, M)]⟩) (PL.first_ok hk) ls m
    have hat2 : (playJ ⟨1, M, 0, [(1, M)]⟩ ls m).at_ ≤ 150 := by have : (⟨1, M, 0, [(1, M)]⟩ : PL).at_ = 0 := rfl; omega
    clear g2 hb5 hA4 hx4 HB4 hk hsm hg hr hat
    generalize playJ ⟨1, M, 0, [(1, M)]⟩ ls m = s at *
    have hl6 := (chk_parts hok.chk).2.2.2
    have hse : 0 ≤ s.e ∧ s.e ≤ 1099511627776 := by have := chk_parts hok.chk; omega
    have g3 := Chain_any g r s w5 hL5 hl6
    go_wp2_with fail
    refine g3.mono ?_
    rintro o w6 ⟨v, rfl, q6, d6, rfl, _, _, hb6⟩
    have HB6 := HB5.trans (hb6.mono HB5.size)
    have hL6 := hL5.below hb6
    have hA6 := hA5.below hb6
    have hx6 := hx5.below hb6
    have hfe := field_e
    have g4 := data_any ⟨xk, xn, xs, xe, bq, bl, bc, raw, by_, off, xb⟩ s.e hse w6 hx6
    dsimp only at g4
    obtain ⟨c0, c1, c2, c3, c4, c5, c6, c7⟩ := (show Dj.at w6 w.heap.size 0 ⟨xk, xn, xs, xe, bq, bl, bc, raw, by_, off, xb⟩ from ⟨hA6.cell 0, hA6.cell 1, hA6.cell 2, hA6.cell 3, hA6.cell 4, hA6.cell 5, hA6.cell 6, hA6.cell 7⟩)
    simp only [Nat.zero_add] at c0 c1 c2 c3 c4 c5 c6 c7
    clear g3 hb6 hA5 hx5 HB5 hL5
    go_wp2_with fail
    refine g4.mono ?_
    rintro o w7 ⟨v, rfl, hD, hb7⟩
    obtain ⟨p9, n9, c9, rfl, hrd, hby, hn9, hfar⟩ := hD
    have HB7 := HB6.trans (hb7.mono HB6.size)
    have hL7 := hL6.below hb7
    have hf7 : ∀ a, p9 = some a → 0 < n9 → a.block ≠ g ∧ a.block ≠ r := fun a ha h0 => by
      rcases hfar a ha h0 with ⟨h1, h2⟩ | h1
      · have h3 : a.block < w.heap.size := hbqlt a h1 h2
        exact ⟨by omega, by omega⟩
      · have h3 := hL6.lt
        exact ⟨by omega, by omega⟩
    have hn10 : n9 ≤ 1099511627776 := hn9.elim (fun h => by have h' : n9 ≤ bl := h; omega) (fun h => by omega)
    generalize dataR ⟨xk, xn, xs, xe, bq, bl, bc, raw, by_, off, xb⟩ s.e = L at *
    have g5 := At_any g r s w7 hL7
    have hwr : IntKind.i64.wrap (s.at_ + 1) = s.at_ + 1 := by have := hok.at0; rw [IntKind.wrap_i64]; omega
    have g6 := Apply_any g r s w7 hL7 hok (s.at_ + 1) p9 n9 c9 L hrd hby hn10
    have hpu := once_pure hok (by omega) L
    have hok1 := PL.app_ok hok (s.at_ + 1) L
    clear g4 hb7 hA6 hx6 HB6 hL6 hfar hn9 c0 c1 c2 c3 c4 c5 c6 c7 hl6 hse hbqlt
    go_wp2_with fail
    refine g5.mono ?_
    rintro o w8 ⟨rfl, hw8⟩
    subst w8
    go_wp2_with fail
    refine g6.mono ?_
    rintro o w8 ⟨rfl, hAf, hE8⟩
    obtain ⟨r8, hr8, hL8⟩ := hAf
    have HB8 := HB7.trans (hE8.below hgB hrB HB7.size)
    have hrd8 := hrd.ex2 hE8 hf7
    have hr8B : w.heap.size ≤ r8 := hr8.elim (fun h => by rw [h]; exact hrB) (fun h => Nat.le_trans HB7.size h)
    clear g5 g6 hE8 hrd HB7 hL7 hr8 hf7 hrB
    generalize hS1 : s.app (s.at_ + 1) L = S1 at *
    obtain ⟨E1, s1⟩ := S1
    dsimp only at *
    have hl61 := (chk_parts hok1.chk).2.2.2
    have g7 := Chain_any g r8 s1 w8 hL8 hl61
    clear hS1
    rcases hpu with ⟨⟨hE0, hlt⟩, he1, hat1, hap, hape⟩ | ⟨hno, he1⟩
    · have g9 := fun W h => Apply_any g r8 s1 W h hok1 (s.at_ + 1 + 1) p9 n9 c9 L
      have hse1 : Hid (s1.e = s.e + 1) := he1
      have hsa1 : Hid (s1.at_ = s.at_ + 1) := hat1
      have hwr2 : IntKind.i64.wrap (s.at_ + 1 + 1) = s.at_ + 1 + 1 := by have := hok.at0; rw [IntKind.wrap_i64]; omega
      have hwr3 : IntKind.i64.wrap (s.e + 1) = s.e + 1 := by have := chk_parts hok.chk; rw [IntKind.wrap_i64]; omega
      have hd1 : decide (s.e < s.e + 1) = true := decide_eq_true (by omega)
      rw [hap] at g9
      obtain ⟨s2, HS2⟩ : ∃ z, Hid ((s1.app (s.at_ + 1 + 1) L).2 = z) := ⟨_, rfl⟩
      have hok2 : s2.ok := by rw [← HS2.out]; exact PL.app_ok hok1 _ _
      rw [HS2.out] at hape g9
      have hse2 : Hid (s2.e = s.e + 1) := hape
      subst hE0
      clear he1 hat1 hap hape hlt
      go_wp2_with fail
      refine g7.mono ?_
      rintro o w9 ⟨v, rfl, q9, d9, rfl, _, _, hb9⟩
      have HB9 := HB8.trans (hb9.mono HB8.size)
      have hL9 := hL8.below hb9
      have g8 := At_any g r8 s1 w9 hL9
      have g10 := g9 w9 hL9 (hrd8.below hb9) hby hn10
      have hl62 := (chk_parts hok2.chk).2.2.2
      rw [hse1.out]
      rw [hsa1.out] at g8
      clear g7 g9 hL8 hb9
      go_wp2_with fail
      refine g8.mono ?_
      rintro o wa ⟨rfl, hwa⟩
      subst wa
      go_wp2_with fail
      refine g10.mono ?_
      rintro o wa ⟨rfl, hAf, hEa⟩
      obtain ⟨ra, hra, hLa⟩ := hAf
      have HBa := HB9.trans (hEa.below hgB hr8B HB9.size)
      have g11 := Chain_any g ra s2 wa hLa hl62
      rw [hse2.out] at g11
      clear g8 g10 hL9
      go_wp2_with fail
      refine g11.mono ?_
      rintro o wb ⟨v, rfl, qb, db, rfl, _, _, hbb⟩
      have HB := HBa.trans (hbb.mono HBa.size)
      clear g11
      go_wp2_with fail
      refine (hW _).mono ?_
      rintro o w9 ⟨rfl, hb9⟩
      go_wp2_with fail
      go_ret
      exact ⟨rfl, HB.trans (hb9.mono HB.size)⟩
    · have hse1 : Hid (s1.e = s.e) := he1
      have hd1 : decide (s.e < s.e) = false := decide_eq_false (by omega)
      have hee : (s.e == s.e) = true := by simp
      clear he1 hno
      go_wp2_with fail
      refine g7.mono ?_
      rintro o w9 ⟨v, rfl, q9, d9, rfl, _, _, hb9⟩
      have HB9 := HB8.trans (hb9.mono HB8.size)
      have hL9 := hL8.below hb9
      have g8 := Chain_any g r8 s1 w9 hL9 hl61
      rw [hse1.out] at g8 ⊢
      by_cases hz : E1 = 0
      · subst hz
        clear g7 hL8 hb9
        go_wp2_with fail
        refine g8.mono ?_
        rintro o wb ⟨v, rfl, qb, db, rfl, _, _, hbb⟩
        have HB := HB9.trans (hbb.mono HB9.size)
        clear g8
        go_wp2_with fail
        refine (hW _).mono ?_
        rintro o w9 ⟨rfl, hb9⟩
        go_wp2_with fail
        go_ret
        exact ⟨rfl, HB.trans (hb9.mono HB.size)⟩
      · have hzb : (E1 == 0) = false := by simp [hz]
        clear g7 hL8 hb9 hz
        go_wp2_with fail
        refine g8.mono ?_
        rintro o wb ⟨v, rfl, qb, db, rfl, _, _, hbb⟩
        have HB := HB9.trans (hbb.mono HB9.size)
        clear g8
        go_wp2_with fail
        refine (hW _).mono ?_
        rintro o w9 ⟨rfl, hb9⟩
        go_wp2_with fail
        go_ret
        exact ⟨rfl, HB.trans (hb9.mono HB.size)⟩

end Go.Proofs.Ytcnkpgbmegppbaa.M
