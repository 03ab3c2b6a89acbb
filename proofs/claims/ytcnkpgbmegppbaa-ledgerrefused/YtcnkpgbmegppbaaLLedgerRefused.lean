/-
  Own text: the walk of the statement 'LedgerRefused'.
-/
import Derived.Test.YtcnkpgbmegppbaaLLedgerOnce
namespace Go.Proofs.Ytcnkpgbmegppbaa.M
open Go.ChangeShapes Go.WideShapes Go.ChangeAt Go.RowKit

theorem chR_90 {k nd st e : Int} {ms : List Mb} : chR k nd st e ms ≠ .error 90 := by
  intro h
  unfold chR at h
  repeat' split at h
  · unfold cutR at h; repeat' split at h
    all_goals cases h
  · unfold cutR at h; repeat' split at h
    all_goals cases h
  · unfold joinR at h; repeat' split at h
    all_goals cases h
  · unfold againR at h; repeat' split at h
    all_goals cases h
  · unfold readyR at h; repeat' split at h
    all_goals cases h

/-- A command that is refused changes no chain. -/
theorem refused_pure (s : PL) (i : Int) (L : List Int) : (s.app i L).1 = 0 ∨ ((s.app i L).1 = 90 ∧ (s.app i L).2 = s) ∨ (((s.app i L).1 ≠ 0 ∧ (s.app i L).1 ≠ 90) ∧ (s.app i L).2 = { s with at_ := s.at_ + 1 }) := by
  unfold PL.app
  split
  · next h =>
    split
    · exact Or.inl rfl
    · rw [h.1]
      match getR L with
      | none => exact Or.inr (Or.inr ⟨⟨(by decide : (120 : Int) ≠ 0), (by decide : (120 : Int) ≠ 90)⟩, rfl⟩)
      | some (k, nd, st, ep) =>
        unfold PL.cmd
        dsimp only
        split
        · match hc : chR k nd st s.e s.ms with
          | .error er => exact Or.inr (Or.inr ⟨⟨chR_err hc, fun h90 => by have h' : er = 90 := h90; rw [h'] at hc; exact chR_90 hc⟩, rfl⟩)
          | .ok (e', ms') => exact Or.inl rfl
        · exact Or.inr (Or.inr ⟨⟨(by decide : (150 : Int) ≠ 0), (by decide : (150 : Int) ≠ 90)⟩, rfl⟩)
  · exact Or.inr (Or.inl ⟨rfl, rfl⟩)

set_option linter.unusedSimpArgs false in
set_option maxRecDepth 20000 in
set_option maxHeartbeats 8000000 in
theorem walk_LedgerRefused (w : World) (p : Option Addr) (n c : Nat) (ms : List Mb) (hm : RdM w p n c ms) (q : Option Addr) (m d : Nat) (ls : List Dj) (h : RdJ w q m d ls) (xk xn xs xe : Int) (bq : Option Addr) (bl bc : Nat) (raw : Bool) (by_ off : Int) (xb : List Int) (hx : Dj.rd w ⟨xk, xn, xs, xe, bq, bl, bc, raw, by_, off, xb⟩) :
    Calls Try.prog 7 #[.slice p n c, .slice q m d, .agg #[.int .i64 xk, .int .i64 xn, .int .i64 xs, .int .i64 xe, .slice bq bl bc, .bool raw, .int .i64 by_, .int .i64 off]] w fun r w' => r = .returned (.bool true) ∧ Below w.heap.size w w' := by
  have hW := fun W => awake_any W
  have h0b := below_alloc w (.cells #[.int .i64 xk, .int .i64 xn, .int .i64 xs, .int .i64 xe, .slice bq bl bc, .bool raw, .int .i64 by_, .int .i64 off] 57)
  by_cases hnm : 60 < n
  · have hni : (60 : Int) < (n : Int) := by omega
    have HB := h0b
    clear hm h hx
    go_enter Try.func7, Try.ntmps7
    go_wp2_with fail
    refine (hW _).mono ?_
    rintro o w9 ⟨rfl, hb9⟩
    go_wp2_with fail
    go_ret
    exact ⟨rfl, HB.trans (hb9.mono HB.size)⟩
  have hni : ¬ (60 : Int) < (n : Int) := by omega
  have hdn : decide ((60 : Int) < (n : Int)) = false := decide_eq_false hni
  have h1b := below_alloc (w.alloc (.cells #[.int .i64 xk, .int .i64 xn, .int .i64 xs, .int .i64 xe, .slice bq bl bc, .bool raw, .int .i64 by_, .int .i64 off] 57)) (.cells #[.int .i64 xk, .int .i64 xn, .int .i64 xs, .int .i64 xe, .slice bq bl bc, .bool raw, .int .i64 by_, .int .i64 off] 57)
  have h2b := below_alloc ((w.alloc (.cells #[.int .i64 xk, .int .i64 xn, .int .i64 xs, .int .i64 xe, .slice bq bl bc, .bool raw, .int .i64 by_, .int .i64 off] 57)).alloc (.cells #[.int .i64 xk, .int .i64 xn, .int .i64 xs, .int .i64 xe, .slice bq bl bc, .bool raw, .int .i64 by_, .int .i64 off] 57)) (.cells #[.slice q m d, .slice (some ⟨w.heap.size + 1, 0, none⟩) 1 1] 35)
  have hA0 := At.new 57 w #[.int .i64 xk, .int .i64 xn, .int .i64 xs, .int .i64 xe, .slice bq bl bc, .bool raw, .int .i64 by_, .int .i64 off]
  have hA1 := At.moved (g2 := w.heap.size + 1) (by simp) (At.new 57 (w.alloc (.cells #[.int .i64 xk, .int .i64 xn, .int .i64 xs, .int .i64 xe, .slice bq bl bc, .bool raw, .int .i64 by_, .int .i64 off] 57)) #[.int .i64 xk, .int .i64 xn, .int .i64 xs, .int .i64 xe, .slice bq bl bc, .bool raw, .int .i64 by_, .int .i64 off])
  have hA2 := At.moved (g2 := w.heap.size + 1 + 1) (by simp) (At.new 35 ((w.alloc (.cells #[.int .i64 xk, .int .i64 xn, .int .i64 xs, .int .i64 xe, .slice bq bl bc, .bool raw, .int .i64 by_, .int .i64 off] 57)).alloc (.cells #[.int .i64 xk, .int .i64 xn, .int .i64 xs, .int .i64 xe, .slice bq bl bc, .bool raw, .int .i64 by_, .int .i64 off] 57)) #[.slice q m d, .slice (some ⟨w.heap.size + 1, 0, none⟩) 1 1])
  have hB1 := h0b.trans (h1b.mono h0b.size)
  have hB2 := hB1.trans (h2b.mono hB1.size)
  have hA02 := (hA0.below h1b).below h2b
  have hx2 : Dj.rd (((w.alloc (.cells #[.int .i64 xk, .int .i64 xn, .int .i64 xs, .int .i64 xe, .slice bq bl bc, .bool raw, .int .i64 by_, .int .i64 off] 57)).alloc (.cells #[.int .i64 xk, .int .i64 xn, .int .i64 xs, .int .i64 xe, .slice bq bl bc, .bool raw, .int .i64 by_, .int .i64 off] 57)).alloc (.cells #[.slice q m d, .slice (some ⟨w.heap.size + 1, 0, none⟩) 1 1] 35)) ⟨xk, xn, xs, xe, bq, bl, bc, raw, by_, off, xb⟩ := hx.below hB2
  have hl2 : RdJ (((w.alloc (.cells #[.int .i64 xk, .int .i64 xn, .int .i64 xs, .int .i64 xe, .slice bq bl bc, .bool raw, .int .i64 by_, .int .i64 off] 57)).alloc (.cells #[.int .i64 xk, .int .i64 xn, .int .i64 xs, .int .i64 xe, .slice bq bl bc, .bool raw, .int .i64 by_, .int .i64 off] 57)).alloc (.cells #[.slice q m d, .slice (some ⟨w.heap.size + 1, 0, none⟩) 1 1] 35)) q m d ls := h.below hB2
  have hat : Dj.at (((w.alloc (.cells #[.int .i64 xk, .int .i64 xn, .int .i64 xs, .int .i64 xe, .slice bq bl bc, .bool raw, .int .i64 by_, .int .i64 off] 57)).alloc (.cells #[.int .i64 xk, .int .i64 xn, .int .i64 xs, .int .i64 xe, .slice bq bl bc, .bool raw, .int .i64 by_, .int .i64 off] 57)).alloc (.cells #[.slice q m d, .slice (some ⟨w.heap.size + 1, 0, none⟩) 1 1] 35)) (w.heap.size + 1) 0 ⟨xk, xn, xs, xe, bq, bl, bc, raw, by_, off, xb⟩ := by have hA12 := hA1.below h2b; exact ⟨hA12.cell 0, hA12.cell 1, hA12.cell 2, hA12.cell 3, hA12.cell 4, hA12.cell 5, hA12.cell 6, hA12.cell 7⟩
  have hJJ : RdJJ (((w.alloc (.cells #[.int .i64 xk, .int .i64 xn, .int .i64 xs, .int .i64 xe, .slice bq bl bc, .bool raw, .int .i64 by_, .int .i64 off] 57)).alloc (.cells #[.int .i64 xk, .int .i64 xn, .int .i64 xs, .int .i64 xe, .slice bq bl bc, .bool raw, .int .i64 by_, .int .i64 off] 57)).alloc (.cells #[.slice q m d, .slice (some ⟨w.heap.size + 1, 0, none⟩) 1 1] 35)) (some ⟨w.heap.size + 1 + 1, 0, none⟩) 2 [ls, [⟨xk, xn, xs, xe, bq, bl, bc, raw, by_, off, xb⟩]] := RdJJ.two (hA2.cell 0) (hA2.cell 1) hl2 (RdJ.one hat hx2)
  have gS := short_any (((w.alloc (.cells #[.int .i64 xk, .int .i64 xn, .int .i64 xs, .int .i64 xe, .slice bq bl bc, .bool raw, .int .i64 by_, .int .i64 off] 57)).alloc (.cells #[.int .i64 xk, .int .i64 xn, .int .i64 xs, .int .i64 xe, .slice bq bl bc, .bool raw, .int .i64 by_, .int .i64 off] 57)).alloc (.cells #[.slice q m d, .slice (some ⟨w.heap.size + 1, 0, none⟩) 1 1] 35)) (some ⟨w.heap.size + 1 + 1, 0, none⟩) 2 2 [ls, [⟨xk, xn, xs, xe, bq, bl, bc, raw, by_, off, xb⟩]] hJJ (by decide)
  obtain ⟨R, HF, hR⟩ := first_is n ms hm.len (by omega)
  obtain ⟨c0, c1, c2, c3, c4, c5, c6, c7⟩ := (show Dj.at (w.alloc (.cells #[.int .i64 xk, .int .i64 xn, .int .i64 xs, .int .i64 xe, .slice bq bl bc, .bool raw, .int .i64 by_, .int .i64 off] 57)) w.heap.size 0 ⟨xk, xn, xs, xe, bq, bl, bc, raw, by_, off, xb⟩ from ⟨hA0.cell 0, hA0.cell 1, hA0.cell 2, hA0.cell 3, hA0.cell 4, hA0.cell 5, hA0.cell 6, hA0.cell 7⟩)
  simp only [Nat.zero_add] at c0 c1 c2 c3 c4 c5 c6 c7
  have hm2 := hm.below hB2
  have hbqlt : ∀ a, bq = some a → 0 < bl → a.block < w.heap.size := hx.b.lt8

  clear hm h hx hA0 hA1 hA2 hB1 h0b h1b h2b hat hJJ
  go_enter Try.func7, Try.ntmps7
  go_wp2_with fail
  refine gS.mono ?_
  rintro o w3 ⟨⟨bb, rfl, hbb⟩, hb3⟩
  have HB := hB2.trans (hb3.mono hB2.size)
  have hA3 := hA02.below hb3
  have hx3 := hx2.below hb3
  have hl3 := hl2.below hb3
  have hm3 := hm2.below hb3
  clear gS hb3 hA02 hx2 hl2 hm2 hB2 c0 c1 c2 c3 c4 c5 c6 c7
  cases bb with
  | false =>
    go_wp2_with fail
    refine (hW _).mono ?_
    rintro o w9 ⟨rfl, hb9⟩
    go_wp2_with fail
    go_ret
    exact ⟨rfl, HB.trans (hb9.mono HB.size)⟩
  | true =>
    have hsh := hbb rfl
    have hs1 := short_of hsh (j := 0) (by simp)
    have hs2 := short_of hsh (j := 1) (by simp)
    have hll : m ≤ 150 := by rw [← hl3.len]; exact hs1.1
    have hsm : Small ls := hs1.2
    have hbl : bl ≤ 4096 := hs2.2 0 (by simp)
    clear hbb hsh hs1 hs2
    rcases hR with rfl | ⟨M, rfl, hk, hMl⟩
    · have g1 := New_bad p n c ms w3 hm3 HF
      go_wp2_with fail
      refine g1.mono ?_
      rintro o w4 ⟨rfl, hb4⟩
      replace HB := HB.trans (hb4.mono HB.size)
      clear g1
      go_wp2_with fail
      refine (hW _).mono ?_
      rintro o w9 ⟨rfl, hb9⟩
      go_wp2_with fail
      go_ret
      exact ⟨rfl, HB.trans (hb9.mono HB.size)⟩
    have HMl : Hid (M.length = n) := hMl
    clear hMl
    have g1 := New_ok p n c ms w3 hm3 M HF
    have HFi : Hid (FirstIs n ms (.ok (1, M))) := HF
    clear HF
    go_wp2_with fail
    refine g1.mono ?_
    rintro o w4 ⟨v, rfl, g0, r0, rfl, _, _, _, hb4⟩
    have HB4 := HB.trans (hb4.mono HB.size)
    have hA4 := hA3.below hb4
    have hx4 := hx3.below hb4
    have g2 := made_law p n c ms w4 (hm3.below hb4) M HFi.out hk q m d ls (hl3.below hb4) hll hsm
    clear g1 hb4 hA3 hx3 hl3 hm3 HB HFi
    go_wp2_with fail
    refine g2.mono ?_
    rintro o w5 ⟨v, rfl, g, r, rfl, hL5, hg, hr, hb5⟩
    have HB5 := HB4.trans (hb5.mono HB4.size)
    have hA5 := hA4.below hb5
    have hx5 := hx4.below hb5
    have hgB : w.heap.size ≤ g := Nat.le_trans HB4.size hg
    have hrB : w.heap.size ≤ r := Nat.le_trans HB4.size hr
    have hxlt : w.heap.size < g ∧ w.heap.size < r := by have := hA4.lt; exact ⟨by omega, by omega⟩
    have hok : (playJ ⟨1, M, 0, [(1, M)]⟩ ls m).ok := playJ_ok (PL.first_ok hk) ls m
    have hat := playJ_at (s := ⟨1, M, 0, [(1, M)]⟩) (PL.first_ok hk) ls m
    have hat2 : (playJ ⟨1, M, 0, [(1, M)]⟩ ls m).at_ ≤ 150 := by have : (⟨1, M, 0, [(1, M)]⟩ : PL).at_ = 0 := rfl; omega
    clear g2 hb5 hA4 hx4 HB4 hk hsm hg hr hat
    generalize playJ ⟨1, M, 0, [(1, M)]⟩ ls m = s at *
    have hl6 := (chk_parts hok.chk).2.2.2
    have hse : 0 ≤ s.e ∧ s.e ≤ 1099511627776 := by have := chk_parts hok.chk; omega
    have g3 := Chain_any g r s w5 hL5 hl6
    go_wp2_with fail
    refine g3.mono ?_
    rintro o w6 ⟨v, rfl, q6, d6, rfl, hr6, hq6, hb6⟩
    have HB6 := HB5.trans (hb6.mono HB5.size)
    have hL6 := hL5.below hb6
    have hA6 := hA5.below hb6
    have hx6 := hx5.below hb6
    have g5 := At_any g r s w6 hL6
    have hlt5 := hL5.lt
    have hlt6 := hL6.lt
    have hq7 : ∀ a, q6 = some a → 0 < s.ms.length → a.block ≠ g ∧ a.block ≠ r := fun a ha h0 => by have := hq6 a ha h0; exact ⟨by omega, by omega⟩
    clear g3 hb6 hA5 hx5 HB5 hL5 hq6 hlt5
    go_wp2_with fail
    refine g5.mono ?_
    rintro o w7 ⟨rfl, hw7⟩
    subst w7
    have hbc := below_alloc w6 (.cells #[.int .i64 s.e, .slice q6 s.ms.length d6] 42)
    have hC7 := At.new 42 w6 #[.int .i64 s.e, .slice q6 s.ms.length d6]
    have HB7 := HB6.trans (hbc.mono HB6.size)
    have hL7 := hL6.below hbc
    have hA7 := hA6.below hbc
    have hx7 := hx6.below hbc
    have hr7 := hr6.below hbc
    have hxcg : w6.heap.size ≠ g := by omega
    have hxcr : w6.heap.size ≠ r := by omega
    have hx0g : w.heap.size ≠ g := by omega
    have hx0r : w.heap.size ≠ r := by omega
    clear g5 hL6 hA6 hx6 hr6 HB6 hbc hlt6 hxlt
    go_wp2_with fail
    generalize (w6.alloc (.cells #[.int .i64 s.e, .slice q6 s.ms.length d6] 42)) = w7 at *
    generalize w6.heap.size = xc at *
    obtain ⟨B, hBB⟩ : ∃ B, w.heap.size = B := ⟨_, rfl⟩
    obtain ⟨x0, hxx⟩ : ∃ x0, x0 = w.heap.size := ⟨_, rfl⟩
    have hB7 : B ≤ w7.heap.size := by rw [← hBB]; exact HB7.size
    rw [hBB] at hgB hrB HB7
    rw [← hxx] at hA7 hx0g hx0r ⊢
    have hS7 : Bl w7 w7.drew := (Below.refl _ _).drew
    refine wp_region_det [0, 1, 2, 4, 5, 6, 9] (fun W => At 57 W x0 #[.int .i64 xk, .int .i64 xn, .int .i64 xs, .int .i64 xe, .slice bq bl bc, .bool raw, .int .i64 by_, .int .i64 off] ∧ At 42 W xc #[.int .i64 s.e, .slice q6 s.ms.length d6]) (Bl w7) (by kernel_rfl) hS7 ?_
    refine wpDet_take ?vG0 (Bl.stays w7) (fun W h => ⟨hA7.below h, hC7.below h⟩) (i := 0) rfl (by kernel_rfl) (by kernel_rfl) (by kernel_rfl) (by kernel_rfl) (fun _ _ _ h => h) (Gives.value (by rfl) ?yG0) ?rG0
    case yG0 => (intro w' hSw; go_simp; try with_reducible rfl)
    (try simp only [Act.put, List.getElem_toArray, List.getElem_cons_zero, List.getElem_cons_succ, List.setIfInBounds_toArray, List.set_cons_zero, List.set_cons_succ])
    refine wpDet_take _ (Bl.stays w7) (fun W h => ⟨hA7.below h, hC7.below h⟩) (i := 1) rfl (by kernel_rfl) (by kernel_rfl) (by kernel_rfl) (by kernel_rfl) (fun _ _ _ h => h) (Gives.of_yields (yieldsIf_load_mid (by rfl) _ _ rfl _ _ rfl _ _ (fun W h => h.1.range) Try.underlying57 rfl sizeDo)) ?_
    (try simp only [Act.put, List.getElem_toArray, List.getElem_cons_zero, List.getElem_cons_succ, List.setIfInBounds_toArray, List.set_cons_zero, List.set_cons_succ])
    refine wpDet_take ?vG2 (Bl.stays w7) (fun W h => ⟨hA7.below h, hC7.below h⟩) (i := 2) rfl (by kernel_rfl) (by kernel_rfl) (by kernel_rfl) (by kernel_rfl) (fun _ _ _ h => h) (Gives.value (by rfl) ?yG2) ?rG2
    case yG2 => (intro w' hSw; go_simp; try with_reducible rfl)
    (try simp only [Act.put, List.getElem_toArray, List.getElem_cons_zero, List.getElem_cons_succ, List.setIfInBounds_toArray, List.set_cons_zero, List.set_cons_succ])
    refine wpDet_take _ (Bl.stays w7) (fun W h => ⟨hA7.below h, hC7.below h⟩) (i := 4) rfl (by kernel_rfl) (by kernel_rfl) (by kernel_rfl) (by kernel_rfl) (fun _ _ _ h => h) (Gives.of_yields (yieldsIf_load_mid (by rfl) _ _ rfl _ _ rfl _ _ (fun W h => h.1.range) Try.underlying57 rfl sizeDo)) ?_
    (try simp only [Act.put, List.getElem_toArray, List.getElem_cons_zero, List.getElem_cons_succ, List.setIfInBounds_toArray, List.set_cons_zero, List.set_cons_succ])
    refine wpDet_take ?vG5 (Bl.stays w7) (fun W h => ⟨hA7.below h, hC7.below h⟩) (i := 5) rfl (by kernel_rfl) (by kernel_rfl) (by kernel_rfl) (by kernel_rfl) (fun _ _ _ h => h) (Gives.value (by rfl) ?yG5) ?rG5
    case yG5 => (intro w' hSw; go_simp; try with_reducible rfl)
    (try simp only [Act.put, List.getElem_toArray, List.getElem_cons_zero, List.getElem_cons_succ, List.setIfInBounds_toArray, List.set_cons_zero, List.set_cons_succ])
    refine wpDet_take ?vG6 (Bl.stays w7) (fun W h => ⟨hA7.below h, hC7.below h⟩) (i := 6) rfl (by kernel_rfl) (by kernel_rfl) (by kernel_rfl) (by kernel_rfl) (fun _ _ _ h => h) (Gives.value (by rfl) ?yG6) ?rG6
    case yG6 => (intro w' hSw; have h6 := hSw.2.two.1; go_simp; try with_reducible rfl)
    (try simp only [Act.put, List.getElem_toArray, List.getElem_cons_zero, List.getElem_cons_succ, List.setIfInBounds_toArray, List.set_cons_zero, List.set_cons_succ])
    refine wpDet_ready (rs := [3]) (by kernel_rfl) (by simp) (AllDet.cons rfl (fun V hV K hK => ?_) AllDet.nil)
    rw [if_pos (by rfl)]
    refine wp_enterE 30 #[.agg #[.int .i64 xk, .int .i64 xn, .int .i64 xs, .int .i64 xe, .slice bq bl bc, .bool raw, .int .i64 by_, .int .i64 off], .int .i64 s.at_] (by first | (go_simp; done) | (go_simp; rfl)) (fun v W => v = .int .i64 (ixR ⟨xk, xn, xs, xe, bq, bl, bc, raw, by_, off, xb⟩ s.at_) ∧ Below V.heap.size V W) ((index_any xk xn xs xe bq bl bc raw by_ off xb s.at_ ⟨hok.at0, hok.at1⟩ V).mono fun e' w' hh => ⟨_, hh.1, rfl, hh.2⟩) ?_
    rintro v V7 ⟨rfl, hb7⟩
    refine hK.out (Bl w7) _ _ (Bl.stays w7) (fun _ => (fun W h => ⟨hA7.below h, hC7.below h⟩)) (Bl.stays w7 V V7 hV hb7) ?_
    clear hK K hV hb7
    (try simp only [Act.put, List.getElem_toArray, List.getElem_cons_zero, List.getElem_cons_succ, List.setIfInBounds_toArray, List.set_cons_zero, List.set_cons_succ])
    refine wpDet_ready (rs := [7]) (by kernel_rfl) (by simp) (AllDet.cons rfl (fun V hV K hK => ?_) AllDet.nil)
    rw [if_pos (by rfl)]
    refine wp_enterE 26 #[.agg #[.int .i64 xk, .int .i64 xn, .int .i64 xs, .int .i64 xe, .slice bq bl bc, .bool raw, .int .i64 by_, .int .i64 off], .int .i64 s.e] (by first | (go_simp; done) | (go_simp; rfl)) (fun v W => Dat V W ⟨xk, xn, xs, xe, bq, bl, bc, raw, by_, off, xb⟩ s.e v ∧ Below V.heap.size V W) ((data_any ⟨xk, xn, xs, xe, bq, bl, bc, raw, by_, off, xb⟩ s.e hse V (hx7.below hV)).mono fun e' w' hh => by obtain ⟨v, h1, h2, h3⟩ := hh; exact ⟨v, h1, h2, h3⟩) ?_
    rintro v V7 ⟨⟨p9, n9, c9, rfl, hrd9, hby9, hn9, hfar9⟩, hb7⟩
    refine hK.out (fun W => Bl w7 W ∧ Rd .u8 W p9 n9 c9 (dataR ⟨xk, xn, xs, xe, bq, bl, bc, raw, by_, off, xb⟩ s.e)) _ _ ((Bl.stays w7).and (Rd.stays _ _ _ _)) (fun _ W h => ⟨hA7.below h.1, hC7.below h.1⟩) ⟨Bl.stays w7 V V7 hV hb7, hrd9⟩ ?_
    clear hK K hV hb7 hrd9 hfar9
    (try simp only [Act.put, List.getElem_toArray, List.getElem_cons_zero, List.getElem_cons_succ, List.setIfInBounds_toArray, List.set_cons_zero, List.set_cons_succ])
    refine wpDet_ready (rs := [8]) (by kernel_rfl) (by simp) (AllDet.cons rfl (fun V hV K hK => ?_) AllDet.nil)
    rw [if_pos (by rfl)]
    have hLV := hL7.below hV.1
    have hA9 := hA7.below hV.1
    have hC9 := hC7.below hV.1
    have hb9 := Bl.out hV.1
    have hrc9 := hr7.below hV.1
    have hAp := Apply_any g r s V hLV hok (ixR ⟨xk, xn, xs, xe, bq, bl, bc, raw, by_, off, xb⟩ s.at_) p9 n9 c9 (dataR ⟨xk, xn, xs, xe, bq, bl, bc, raw, by_, off, xb⟩ s.e) hV.2 hby9 (hn9.elim (fun h => by have h' : n9 ≤ bl := h; omega) (fun h => by omega))
    refine wp_enterE 27 #[.pointer (some ⟨g, 0, none⟩), .int .i64 (ixR ⟨xk, xn, xs, xe, bq, bl, bc, raw, by_, off, xb⟩ s.at_), .slice p9 n9 c9] (by first | (go_simp; done) | (go_simp; rfl)) (fun v W => v = .int .i64 (s.app (ixR ⟨xk, xn, xs, xe, bq, bl, bc, raw, by_, off, xb⟩ s.at_) (dataR ⟨xk, xn, xs, xe, bq, bl, bc, raw, by_, off, xb⟩ s.e)).1 ∧ Aft V W g r (s.app (ixR ⟨xk, xn, xs, xe, bq, bl, bc, raw, by_, off, xb⟩ s.at_) (dataR ⟨xk, xn, xs, xe, bq, bl, bc, raw, by_, off, xb⟩ s.e)).2 ∧ Ex2 g r V W) (hAp.mono fun e' w' hh => ⟨_, hh.1, rfl, hh.2⟩) ?_
    rintro v V7 ⟨rfl, hAf, hE7⟩
    obtain ⟨r8, hr8, hL8⟩ := hAf
    have hA8 : At 57 V7 x0 #[.int .i64 xk, .int .i64 xn, .int .i64 xs, .int .i64 xe, .slice bq bl bc, .bool raw, .int .i64 by_, .int .i64 off] := (hE7.block x0 hA9.lt hx0g hx0r).trans hA9
    have hC8 : At 42 V7 xc #[.int .i64 s.e, .slice q6 s.ms.length d6] := (hE7.block xc hC9.lt hxcg hxcr).trans hC9
    have hrc8 := hrc9.ex2 hE7 hq7
    have hB8 := (hb9.mono hB7).trans (hE7.below hgB hrB (Nat.le_trans hB7 hb9.size))
    refine hK.out (fun W => LP W g r8 (s.app (ixR ⟨xk, xn, xs, xe, bq, bl, bc, raw, by_, off, xb⟩ s.at_) (dataR ⟨xk, xn, xs, xe, bq, bl, bc, raw, by_, off, xb⟩ s.e)).2 ∧ (At 57 W x0 #[.int .i64 xk, .int .i64 xn, .int .i64 xs, .int .i64 xe, .slice bq bl bc, .bool raw, .int .i64 by_, .int .i64 off] ∧ At 42 W xc #[.int .i64 s.e, .slice q6 s.ms.length d6]) ∧ RdM W q6 s.ms.length d6 s.ms ∧ B ≤ W.heap.size ∧ Below B w7 W) _ _ (fun _ _ h hb => ⟨h.1.below hb, ⟨h.2.1.1.below hb, h.2.1.2.below hb⟩, h.2.2.1.below hb, Nat.le_trans h.2.2.2.1 hb.size, h.2.2.2.2.trans (hb.mono h.2.2.2.1)⟩) (fun _ W h => h.2.1) ⟨hL8, ⟨hA8, hC8⟩, hrc8, Nat.le_trans hB7 (Nat.le_trans hb9.size hE7.size), hB8⟩ ?_
    have hr8B : B ≤ r8 := hr8.elim (fun h => by rw [h]; exact hrB) (fun h => Nat.le_trans (Nat.le_trans hB7 hb9.size) h)
    clear hK K hV hLV hA9 hC9 hb9 hAp hE7 hL8 hA8 hC8 hB8 hr8 hrc8 hrc9
    (try simp only [Act.put, List.getElem_toArray, List.getElem_cons_zero, List.getElem_cons_succ, List.setIfInBounds_toArray, List.set_cons_zero, List.set_cons_succ])
    refine wpDet_take ?vG9 (fun _ _ h hb => ⟨h.1.below hb, ⟨h.2.1.1.below hb, h.2.1.2.below hb⟩, h.2.2.1.below hb, Nat.le_trans h.2.2.2.1 hb.size, h.2.2.2.2.trans (hb.mono h.2.2.2.1)⟩) (fun W h => h.2.1) (i := 9) rfl (by kernel_rfl) (by kernel_rfl) (by kernel_rfl) (by kernel_rfl) (fun _ _ _ h => h) (Gives.value (by rfl) ?yG9) ?rG9
    case yG9 => (intro w' hSw; go_simp; try with_reducible rfl)
    (try simp only [Act.put, List.getElem_toArray, List.getElem_cons_zero, List.getElem_cons_succ, List.setIfInBounds_toArray, List.set_cons_zero, List.set_cons_succ])
    refine wpDet_done (by kernel_rfl) (fun w8 hV => ?_) _
    obtain ⟨hL8, ⟨_, hC8⟩, hr8c, hs8, hB8⟩ := hV
    have HB8 := HB7.trans hB8
    have hpu := refused_pure s (ixR ⟨xk, xn, xs, xe, bq, bl, bc, raw, by_, off, xb⟩ s.at_) (dataR ⟨xk, xn, xs, xe, bq, bl, bc, raw, by_, off, xb⟩ s.e)
    have hok1 := PL.app_ok hok (ixR ⟨xk, xn, xs, xe, bq, bl, bc, raw, by_, off, xb⟩ s.at_) (dataR ⟨xk, xn, xs, xe, bq, bl, bc, raw, by_, off, xb⟩ s.e)
    generalize s.app (ixR ⟨xk, xn, xs, xe, bq, bl, bc, raw, by_, off, xb⟩ s.at_) (dataR ⟨xk, xn, xs, xe, bq, bl, bc, raw, by_, off, xb⟩ s.e) = S1 at *
    obtain ⟨E1, s1⟩ := S1
    dsimp only at *
    have hl61 := (chk_parts hok1.chk).2.2.2
    clear hL7 hA7 hC7 hx7 hr7 HB7 hB8 hn9 hby9 hbqlt
    rcases hpu with rfl | ⟨rfl, hs1⟩ | ⟨⟨hne0, hne90⟩, hs1⟩
    · clear hL8 hC8 hr8c
      go_wp2_with fail
      refine (hW _).mono ?_
      rintro o w9 ⟨rfl, hb9⟩
      go_wp2_with fail
      go_ret
      exact ⟨rfl, by rw [hBB]; exact HB8.trans (hb9.mono hs8)⟩
    · have hse1 : Hid (s1.e = s.e) := by unfold Hid; rw [hs1]
      have hsm1 : Hid (s1.ms = s.ms) := by unfold Hid; rw [hs1]
      have hsa1 : s1.at_ = s.at_ := by rw [hs1]
      have hw1 : IntKind.i64.wrap (s.at_ - 1) = s.at_ - 1 := by have := hok.at0; rw [IntKind.wrap_i64]; omega
      obtain ⟨A, HA⟩ : ∃ A, Hid (s.at_ - 1 = A) := ⟨_, rfl⟩
      have hw2 : IntKind.i64.wrap (A + 1) = A + 1 := by have := hok.at0; have := HA.out; rw [IntKind.wrap_i64]; omega
      have hee : (s1.at_ == A + 1) = true := by have := HA.out; simp; omega
      have heq : Hid (s1.at_ = A + 1) := by have := HA.out; unfold Hid; omega
      clear hs1 hsa1
      go_wp2_with fail
      rw [HA.out]
      clear HA hw1
      have hS8 : Bl w8 w8.drew := (Below.refl _ _).drew
      refine wp_region_det [0, 2, 4, 5, 7, 8, 9, 10, 11, 13, 14] (fun W => At 42 W xc #[.int .i64 s.e, .slice q6 s.ms.length d6]) (Bl w8) (by kernel_rfl) hS8 ?_
      refine wpDet_take ?vH0 (Bl.stays w8) (fun W h => hC8.below h) (i := 0) rfl (by kernel_rfl) (by kernel_rfl) (by kernel_rfl) (by kernel_rfl) (fun _ _ _ h => h) (Gives.value (by rfl) ?yH0) ?rH0
      case yH0 => (intro w' hSw; go_simp; try with_reducible rfl)
      (try simp only [Act.put, List.getElem_toArray, List.getElem_cons_zero, List.getElem_cons_succ, List.setIfInBounds_toArray, List.set_cons_zero, List.set_cons_succ])
      refine wpDet_take _ (Bl.stays w8) (fun W h => hC8.below h) (i := 2) rfl (by kernel_rfl) (by kernel_rfl) (by kernel_rfl) (by kernel_rfl) (fun _ _ _ h => h) (Gives.of_yields (yieldsIf_load_mid (by rfl) _ _ rfl _ _ rfl _ _ (fun W h => h.range) Try.underlying42 rfl sizeC)) ?_
      (try simp only [Act.put, List.getElem_toArray, List.getElem_cons_zero, List.getElem_cons_succ, List.setIfInBounds_toArray, List.set_cons_zero, List.set_cons_succ])
      refine wpDet_ready (rs := [1]) (by kernel_rfl) (by simp) (AllDet.cons rfl (fun V hV K hK => ?_) AllDet.nil)
      rw [if_pos (by rfl)]
      refine wp_enterE 20 #[.pointer (some ⟨g, 0, none⟩)] (by first | (go_simp; done) | (go_simp; rfl)) (fun v W => (∃ q d, v = .agg #[.int .i64 s.e, .slice q s.ms.length d] ∧ RdM W q s.ms.length d s.ms) ∧ Below V.heap.size V W) ((Chain_any g r8 s1 V (hL8.below hV) hl61).mono fun e' w' hh => by obtain ⟨v, h1, q, d, h2, h4, _, h3⟩ := hh; rw [hse1.out, hsm1.out] at h2; rw [hsm1.out] at h4; exact ⟨v, h1, ⟨q, d, h2, h4⟩, h3⟩) ?_
      rintro v V7 ⟨⟨qa, da, rfl, hra⟩, hb7⟩
      refine hK.out (Br w8 qa s.ms.length da s.ms) _ _ (Br.stays w8 _ _ _ _) (fun _ W h => hC8.below h.1) ⟨Bl.stays w8 V V7 hV hb7, hra⟩ ?_
      clear hK K hV hb7 hra
      (try simp only [Act.put, List.getElem_toArray, List.getElem_cons_zero, List.getElem_cons_succ, List.setIfInBounds_toArray, List.set_cons_zero, List.set_cons_succ])
      refine wpDet_ready (rs := [3]) (by kernel_rfl) (by simp) (AllDet.cons rfl (fun V hV K hK => ?_) AllDet.nil)
      rw [if_pos (by rfl)]
      have hSa := Same_any s.e s.e qa q6 s.ms.length s.ms.length da d6 s.ms s.ms V hV.2 (hr8c.below hV.1) (by omega) (by omega)
      have eSa : (s.e == s.e && eqMs s.ms s.ms) = true := by simp [eqMs_self]
      rw [eSa] at hSa
      refine wp_enterE 32 #[.agg #[.int .i64 s.e, .slice qa s.ms.length da], .agg #[.int .i64 s.e, .slice q6 s.ms.length d6]] (by first | (go_simp; done) | (go_simp; rfl)) (fun v W => v = .bool true ∧ Below V.heap.size V W) (hSa.mono fun e' w' hh => ⟨_, hh.1, rfl, hh.2⟩) ?_
      rintro v V7 ⟨rfl, hb7⟩
      refine hK.out (Bl w8) _ _ (Bl.stays w8) (fun _ => (fun W h => hC8.below h)) (Bl.stays w8 V V7 hV.1 hb7) ?_
      clear hK K hV hb7 hSa eSa
      (try simp only [Act.put, List.getElem_toArray, List.getElem_cons_zero, List.getElem_cons_succ, List.setIfInBounds_toArray, List.set_cons_zero, List.set_cons_succ])
      refine wpDet_take ?vH4 (Bl.stays w8) (fun W h => hC8.below h) (i := 4) rfl (by kernel_rfl) (by kernel_rfl) (by kernel_rfl) (by kernel_rfl) (fun _ _ _ h => h) (Gives.value (by rfl) ?yH4) ?rH4
      case yH4 => (intro w' hSw; go_simp; try with_reducible rfl)
      (try simp only [Act.put, List.getElem_toArray, List.getElem_cons_zero, List.getElem_cons_succ, List.setIfInBounds_toArray, List.set_cons_zero, List.set_cons_succ])
      refine wpDet_take ?vH5 (Bl.stays w8) (fun W h => hC8.below h) (i := 5) rfl (by kernel_rfl) (by kernel_rfl) (by kernel_rfl) (by kernel_rfl) (fun _ _ _ h => h) (Gives.value (by rfl) ?yH5) ?rH5
      case yH5 => (intro w' hSw; go_simp; try with_reducible rfl)
      (try simp only [Act.put, List.getElem_toArray, List.getElem_cons_zero, List.getElem_cons_succ, List.setIfInBounds_toArray, List.set_cons_zero, List.set_cons_succ])
      refine wpDet_take ?vH7 (Bl.stays w8) (fun W h => hC8.below h) (i := 7) rfl (by kernel_rfl) (by kernel_rfl) (by kernel_rfl) (by kernel_rfl) (fun _ _ _ h => h) (Gives.value (by rfl) ?yH7) ?rH7
      case yH7 => (intro w' hSw; go_simp; try with_reducible rfl)
      (try simp only [Act.put, List.getElem_toArray, List.getElem_cons_zero, List.getElem_cons_succ, List.setIfInBounds_toArray, List.set_cons_zero, List.set_cons_succ])
      refine wpDet_take ?vH8 (Bl.stays w8) (fun W h => hC8.below h) (i := 8) rfl (by kernel_rfl) (by kernel_rfl) (by kernel_rfl) (by kernel_rfl) (fun _ _ _ h => h) (Gives.value (by rfl) ?yH8) ?rH8
      case yH8 => (intro w' hSw; go_simp; try with_reducible rfl)
      (try simp only [Act.put, List.getElem_toArray, List.getElem_cons_zero, List.getElem_cons_succ, List.setIfInBounds_toArray, List.set_cons_zero, List.set_cons_succ])
      refine wpDet_ready (rs := [6]) (by kernel_rfl) (by simp) (AllDet.cons rfl (fun V hV K hK => ?_) AllDet.nil)
      rw [if_pos (by rfl)]
      refine wp_enterE 28 #[.pointer (some ⟨g, 0, none⟩)] (by first | (go_simp; done) | (go_simp; rfl)) (fun v W => v = .int .i64 s1.at_ ∧ W = V) ((At_any g r8 s1 V (hL8.below hV)).mono fun e' w' hh => ⟨_, hh.1, rfl, hh.2⟩) ?_
      rintro v V7 ⟨rfl, hw7⟩
      subst V7
      refine hK.out (Bl w8) _ _ (Bl.stays w8) (fun _ => (fun W h => hC8.below h)) hV ?_
      clear hK K hV
      (try simp only [Act.put, List.getElem_toArray, List.getElem_cons_zero, List.getElem_cons_succ, List.setIfInBounds_toArray, List.set_cons_zero, List.set_cons_succ])
      refine wpDet_take (.bool true) (Bl.stays w8) (fun W h => hC8.below h) (i := 9) rfl (by kernel_rfl) (by kernel_rfl) (by kernel_rfl) (by kernel_rfl) (fun _ _ _ h => h) (Gives.value (by rfl) ?yH9) ?rH9
      case yH9 => (intro w' hSw; go_simp; first | done | exact hee | exact heq.out | simp [heq.out])
      (try simp only [Act.put, List.getElem_toArray, List.getElem_cons_zero, List.getElem_cons_succ, List.setIfInBounds_toArray, List.set_cons_zero, List.set_cons_succ])
      refine wpDet_take ?vH10 (Bl.stays w8) (fun W h => hC8.below h) (i := 10) rfl (by kernel_rfl) (by kernel_rfl) (by kernel_rfl) (by kernel_rfl) (fun _ _ _ h => h) (Gives.value (by rfl) ?yH10) ?rH10
      case yH10 => (intro w' hSw; go_simp; try with_reducible rfl)
      (try simp only [Act.put, List.getElem_toArray, List.getElem_cons_zero, List.getElem_cons_succ, List.setIfInBounds_toArray, List.set_cons_zero, List.set_cons_succ])
      refine wpDet_take ?vH11 (Bl.stays w8) (fun W h => hC8.below h) (i := 11) rfl (by kernel_rfl) (by kernel_rfl) (by kernel_rfl) (by kernel_rfl) (fun _ _ _ h => h) (Gives.value (by rfl) ?yH11) ?rH11
      case yH11 => (intro w' hSw; go_simp; try with_reducible rfl)
      (try simp only [Act.put, List.getElem_toArray, List.getElem_cons_zero, List.getElem_cons_succ, List.setIfInBounds_toArray, List.set_cons_zero, List.set_cons_succ])
      refine wpDet_ready (rs := [12]) (by kernel_rfl) (by simp) (AllDet.cons rfl (fun V hV K hK => ?_) AllDet.nil)
      rw [if_pos (by rfl)]
      refine wp_enterE 8 #[] (by first | (go_simp; done) | (go_simp; rfl)) (fun v W => v = .bool true ∧ Below V.heap.size V W) ((hW V).mono fun e' w' hh => ⟨_, hh.1, rfl, hh.2⟩) ?_
      rintro v V7 ⟨rfl, hb7⟩
      refine hK.out (Bl w8) _ _ (Bl.stays w8) (fun _ => (fun W h => hC8.below h)) (Bl.stays w8 V V7 hV hb7) ?_
      clear hK K hV hb7
      (try simp only [Act.put, List.getElem_toArray, List.getElem_cons_zero, List.getElem_cons_succ, List.setIfInBounds_toArray, List.set_cons_zero, List.set_cons_succ])
      refine wpDet_take ?vH13 (Bl.stays w8) (fun W h => hC8.below h) (i := 13) rfl (by kernel_rfl) (by kernel_rfl) (by kernel_rfl) (by kernel_rfl) (fun _ _ _ h => h) (Gives.value (by rfl) ?yH13) ?rH13
      case yH13 => (intro w' hSw; go_simp; try with_reducible rfl)
      (try simp only [Act.put, List.getElem_toArray, List.getElem_cons_zero, List.getElem_cons_succ, List.setIfInBounds_toArray, List.set_cons_zero, List.set_cons_succ])
      refine wpDet_take ?vH14 (Bl.stays w8) (fun W h => hC8.below h) (i := 14) rfl (by kernel_rfl) (by kernel_rfl) (by kernel_rfl) (by kernel_rfl) (fun _ _ _ h => h) (Gives.value (by rfl) ?yH14) ?rH14
      case yH14 => (intro w' hSw; go_simp; try with_reducible rfl)
      (try simp only [Act.put, List.getElem_toArray, List.getElem_cons_zero, List.getElem_cons_succ, List.setIfInBounds_toArray, List.set_cons_zero, List.set_cons_succ])
      refine wpDet_done (by kernel_rfl) (fun wz hV => ?_) _
      have HBz := HB8.trans ((Bl.out hV).mono hs8)
      clear hL8 hC8 hr8c
      go_wp2_with fail
      go_ret
      exact ⟨rfl, by rw [hBB]; exact HBz⟩
    · have hse1 : Hid (s1.e = s.e) := by unfold Hid; rw [hs1]
      have hsm1 : Hid (s1.ms = s.ms) := by unfold Hid; rw [hs1]
      have hsa1 : s1.at_ = s.at_ + 1 := by rw [hs1]
      have hw2 : IntKind.i64.wrap (s.at_ + 1) = s.at_ + 1 := by have := hok.at0; rw [IntKind.wrap_i64]; omega
      have hee : (s1.at_ == s.at_ + 1) = true := by simp [hsa1]
      have heq : Hid (s1.at_ = s.at_ + 1) := hsa1
      have hb0 : (E1 == 0) = false := by simp [hne0]
      have hb90 : (E1 == 90) = false := by simp [hne90]
      clear hs1 hsa1 hne0 hne90
      go_wp2_with fail
      have hS8 : Bl w8 w8.drew := (Below.refl _ _).drew
      refine wp_region_det [0, 2, 4, 5, 7, 8, 9, 10, 11, 13, 14] (fun W => At 42 W xc #[.int .i64 s.e, .slice q6 s.ms.length d6]) (Bl w8) (by kernel_rfl) hS8 ?_
      refine wpDet_take ?vJ0 (Bl.stays w8) (fun W h => hC8.below h) (i := 0) rfl (by kernel_rfl) (by kernel_rfl) (by kernel_rfl) (by kernel_rfl) (fun _ _ _ h => h) (Gives.value (by rfl) ?yJ0) ?rJ0
      case yJ0 => (intro w' hSw; go_simp; try with_reducible rfl)
      (try simp only [Act.put, List.getElem_toArray, List.getElem_cons_zero, List.getElem_cons_succ, List.setIfInBounds_toArray, List.set_cons_zero, List.set_cons_succ])
      refine wpDet_take _ (Bl.stays w8) (fun W h => hC8.below h) (i := 2) rfl (by kernel_rfl) (by kernel_rfl) (by kernel_rfl) (by kernel_rfl) (fun _ _ _ h => h) (Gives.of_yields (yieldsIf_load_mid (by rfl) _ _ rfl _ _ rfl _ _ (fun W h => h.range) Try.underlying42 rfl sizeC)) ?_
      (try simp only [Act.put, List.getElem_toArray, List.getElem_cons_zero, List.getElem_cons_succ, List.setIfInBounds_toArray, List.set_cons_zero, List.set_cons_succ])
      refine wpDet_ready (rs := [1]) (by kernel_rfl) (by simp) (AllDet.cons rfl (fun V hV K hK => ?_) AllDet.nil)
      rw [if_pos (by rfl)]
      refine wp_enterE 20 #[.pointer (some ⟨g, 0, none⟩)] (by first | (go_simp; done) | (go_simp; rfl)) (fun v W => (∃ q d, v = .agg #[.int .i64 s.e, .slice q s.ms.length d] ∧ RdM W q s.ms.length d s.ms) ∧ Below V.heap.size V W) ((Chain_any g r8 s1 V (hL8.below hV) hl61).mono fun e' w' hh => by obtain ⟨v, h1, q, d, h2, h4, _, h3⟩ := hh; rw [hse1.out, hsm1.out] at h2; rw [hsm1.out] at h4; exact ⟨v, h1, ⟨q, d, h2, h4⟩, h3⟩) ?_
      rintro v V7 ⟨⟨qa, da, rfl, hra⟩, hb7⟩
      refine hK.out (Br w8 qa s.ms.length da s.ms) _ _ (Br.stays w8 _ _ _ _) (fun _ W h => hC8.below h.1) ⟨Bl.stays w8 V V7 hV hb7, hra⟩ ?_
      clear hK K hV hb7 hra
      (try simp only [Act.put, List.getElem_toArray, List.getElem_cons_zero, List.getElem_cons_succ, List.setIfInBounds_toArray, List.set_cons_zero, List.set_cons_succ])
      refine wpDet_ready (rs := [3]) (by kernel_rfl) (by simp) (AllDet.cons rfl (fun V hV K hK => ?_) AllDet.nil)
      rw [if_pos (by rfl)]
      have hSa := Same_any s.e s.e qa q6 s.ms.length s.ms.length da d6 s.ms s.ms V hV.2 (hr8c.below hV.1) (by omega) (by omega)
      have eSa : (s.e == s.e && eqMs s.ms s.ms) = true := by simp [eqMs_self]
      rw [eSa] at hSa
      refine wp_enterE 32 #[.agg #[.int .i64 s.e, .slice qa s.ms.length da], .agg #[.int .i64 s.e, .slice q6 s.ms.length d6]] (by first | (go_simp; done) | (go_simp; rfl)) (fun v W => v = .bool true ∧ Below V.heap.size V W) (hSa.mono fun e' w' hh => ⟨_, hh.1, rfl, hh.2⟩) ?_
      rintro v V7 ⟨rfl, hb7⟩
      refine hK.out (Bl w8) _ _ (Bl.stays w8) (fun _ => (fun W h => hC8.below h)) (Bl.stays w8 V V7 hV.1 hb7) ?_
      clear hK K hV hb7 hSa eSa
      (try simp only [Act.put, List.getElem_toArray, List.getElem_cons_zero, List.getElem_cons_succ, List.setIfInBounds_toArray, List.set_cons_zero, List.set_cons_succ])
      refine wpDet_take ?vJ4 (Bl.stays w8) (fun W h => hC8.below h) (i := 4) rfl (by kernel_rfl) (by kernel_rfl) (by kernel_rfl) (by kernel_rfl) (fun _ _ _ h => h) (Gives.value (by rfl) ?yJ4) ?rJ4
      case yJ4 => (intro w' hSw; go_simp; try with_reducible rfl)
      (try simp only [Act.put, List.getElem_toArray, List.getElem_cons_zero, List.getElem_cons_succ, List.setIfInBounds_toArray, List.set_cons_zero, List.set_cons_succ])
      refine wpDet_take ?vJ5 (Bl.stays w8) (fun W h => hC8.below h) (i := 5) rfl (by kernel_rfl) (by kernel_rfl) (by kernel_rfl) (by kernel_rfl) (fun _ _ _ h => h) (Gives.value (by rfl) ?yJ5) ?rJ5
      case yJ5 => (intro w' hSw; go_simp; try with_reducible rfl)
      (try simp only [Act.put, List.getElem_toArray, List.getElem_cons_zero, List.getElem_cons_succ, List.setIfInBounds_toArray, List.set_cons_zero, List.set_cons_succ])
      refine wpDet_take ?vJ7 (Bl.stays w8) (fun W h => hC8.below h) (i := 7) rfl (by kernel_rfl) (by kernel_rfl) (by kernel_rfl) (by kernel_rfl) (fun _ _ _ h => h) (Gives.value (by rfl) ?yJ7) ?rJ7
      case yJ7 => (intro w' hSw; go_simp; try with_reducible rfl)
      (try simp only [Act.put, List.getElem_toArray, List.getElem_cons_zero, List.getElem_cons_succ, List.setIfInBounds_toArray, List.set_cons_zero, List.set_cons_succ])
      refine wpDet_take ?vJ8 (Bl.stays w8) (fun W h => hC8.below h) (i := 8) rfl (by kernel_rfl) (by kernel_rfl) (by kernel_rfl) (by kernel_rfl) (fun _ _ _ h => h) (Gives.value (by rfl) ?yJ8) ?rJ8
      case yJ8 => (intro w' hSw; go_simp; try with_reducible rfl)
      (try simp only [Act.put, List.getElem_toArray, List.getElem_cons_zero, List.getElem_cons_succ, List.setIfInBounds_toArray, List.set_cons_zero, List.set_cons_succ])
      refine wpDet_ready (rs := [6]) (by kernel_rfl) (by simp) (AllDet.cons rfl (fun V hV K hK => ?_) AllDet.nil)
      rw [if_pos (by rfl)]
      refine wp_enterE 28 #[.pointer (some ⟨g, 0, none⟩)] (by first | (go_simp; done) | (go_simp; rfl)) (fun v W => v = .int .i64 s1.at_ ∧ W = V) ((At_any g r8 s1 V (hL8.below hV)).mono fun e' w' hh => ⟨_, hh.1, rfl, hh.2⟩) ?_
      rintro v V7 ⟨rfl, hw7⟩
      subst V7
      refine hK.out (Bl w8) _ _ (Bl.stays w8) (fun _ => (fun W h => hC8.below h)) hV ?_
      clear hK K hV
      (try simp only [Act.put, List.getElem_toArray, List.getElem_cons_zero, List.getElem_cons_succ, List.setIfInBounds_toArray, List.set_cons_zero, List.set_cons_succ])
      refine wpDet_take (.bool true) (Bl.stays w8) (fun W h => hC8.below h) (i := 9) rfl (by kernel_rfl) (by kernel_rfl) (by kernel_rfl) (by kernel_rfl) (fun _ _ _ h => h) (Gives.value (by rfl) ?yJ9) ?rJ9
      case yJ9 => (intro w' hSw; go_simp; first | done | exact hee | exact heq.out | simp [heq.out])
      (try simp only [Act.put, List.getElem_toArray, List.getElem_cons_zero, List.getElem_cons_succ, List.setIfInBounds_toArray, List.set_cons_zero, List.set_cons_succ])
      refine wpDet_take ?vJ10 (Bl.stays w8) (fun W h => hC8.below h) (i := 10) rfl (by kernel_rfl) (by kernel_rfl) (by kernel_rfl) (by kernel_rfl) (fun _ _ _ h => h) (Gives.value (by rfl) ?yJ10) ?rJ10
      case yJ10 => (intro w' hSw; go_simp; try with_reducible rfl)
      (try simp only [Act.put, List.getElem_toArray, List.getElem_cons_zero, List.getElem_cons_succ, List.setIfInBounds_toArray, List.set_cons_zero, List.set_cons_succ])
      refine wpDet_take ?vJ11 (Bl.stays w8) (fun W h => hC8.below h) (i := 11) rfl (by kernel_rfl) (by kernel_rfl) (by kernel_rfl) (by kernel_rfl) (fun _ _ _ h => h) (Gives.value (by rfl) ?yJ11) ?rJ11
      case yJ11 => (intro w' hSw; go_simp; try with_reducible rfl)
      (try simp only [Act.put, List.getElem_toArray, List.getElem_cons_zero, List.getElem_cons_succ, List.setIfInBounds_toArray, List.set_cons_zero, List.set_cons_succ])
      refine wpDet_ready (rs := [12]) (by kernel_rfl) (by simp) (AllDet.cons rfl (fun V hV K hK => ?_) AllDet.nil)
      rw [if_pos (by rfl)]
      refine wp_enterE 8 #[] (by first | (go_simp; done) | (go_simp; rfl)) (fun v W => v = .bool true ∧ Below V.heap.size V W) ((hW V).mono fun e' w' hh => ⟨_, hh.1, rfl, hh.2⟩) ?_
      rintro v V7 ⟨rfl, hb7⟩
      refine hK.out (Bl w8) _ _ (Bl.stays w8) (fun _ => (fun W h => hC8.below h)) (Bl.stays w8 V V7 hV hb7) ?_
      clear hK K hV hb7
      (try simp only [Act.put, List.getElem_toArray, List.getElem_cons_zero, List.getElem_cons_succ, List.setIfInBounds_toArray, List.set_cons_zero, List.set_cons_succ])
      refine wpDet_take ?vJ13 (Bl.stays w8) (fun W h => hC8.below h) (i := 13) rfl (by kernel_rfl) (by kernel_rfl) (by kernel_rfl) (by kernel_rfl) (fun _ _ _ h => h) (Gives.value (by rfl) ?yJ13) ?rJ13
      case yJ13 => (intro w' hSw; go_simp; try with_reducible rfl)
      (try simp only [Act.put, List.getElem_toArray, List.getElem_cons_zero, List.getElem_cons_succ, List.setIfInBounds_toArray, List.set_cons_zero, List.set_cons_succ])
      refine wpDet_take ?vJ14 (Bl.stays w8) (fun W h => hC8.below h) (i := 14) rfl (by kernel_rfl) (by kernel_rfl) (by kernel_rfl) (by kernel_rfl) (fun _ _ _ h => h) (Gives.value (by rfl) ?yJ14) ?rJ14
      case yJ14 => (intro w' hSw; go_simp; try with_reducible rfl)
      (try simp only [Act.put, List.getElem_toArray, List.getElem_cons_zero, List.getElem_cons_succ, List.setIfInBounds_toArray, List.set_cons_zero, List.set_cons_succ])
      refine wpDet_done (by kernel_rfl) (fun wz hV => ?_) _
      have HBz := HB8.trans ((Bl.out hV).mono hs8)
      clear hL8 hC8 hr8c
      go_wp2_with fail
      go_ret
      exact ⟨rfl, by rw [hBB]; exact HBz⟩

end Go.Proofs.Ytcnkpgbmegppbaa.M
