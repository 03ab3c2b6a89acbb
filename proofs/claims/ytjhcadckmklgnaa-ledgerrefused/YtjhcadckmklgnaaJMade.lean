/-
  Own text: a ledger behind calls: the contract of the law's made.
-/
import Derived.Test.YtjhcadckmklgnaaJShort
namespace Go.Proofs.Ytjhcadckmklgnaa.M
open Go.ChangeShapes Go.WideShapes Go.ChangeAt Go.RowKit

/-- A ledger behind a call. -/
def stepJ (s : PL) (x : Dj) : PL := (s.app (ixR x s.at_) (dataR x s.e)).2

/-- .. behind the first k calls. -/
def playJ (s : PL) (ls : List Dj) : Nat → PL
  | 0 => s
  | k + 1 => stepJ (playJ s ls k) (ls.getD k default)

theorem playJ_ok {s : PL} (h : s.ok) (ls : List Dj) : ∀ k, (playJ s ls k).ok
  | 0 => h
  | k + 1 => PL.app_ok (playJ_ok h ls k) _ _

theorem At.range {t : TypeId} {W : World} {b : Nat} {cs : List Value} (h : At t W b cs.toArray) : W.rangeAt b 0 cs := by
  intro j v hj
  rw [Nat.zero_add, h.cell j]
  simpa using hj

theorem sizeDo : (Try.prog.info? 57).map (·.size) = some 8 := by kernel_rfl

theorem Rd.stays (p : Option Addr) (n c : Nat) (xs : List Int) : Stays (fun W => Rd .u8 W p n c xs) := fun _ _ h hb => h.below hb

theorem field_e (a b : Value) (w : World) : (Instr.field 42 (.agg #[a, b]) 0).run Try.prog w = .ok a w := by
  have hi : (Try.prog.info? 3).map (·.size) = some 1 := by kernel_rfl
  cases hq : Try.prog.info? 3 with
  | none => simp [hq] at hi
  | some i =>
    have hs : i.size = 1 := by simpa [hq] using hi
    simp [Instr.field, run_underlying Try.underlying42, part, asAgg, sizeOf, typeInfo, hq, hs]

set_option linter.unusedSimpArgs false in
set_option maxRecDepth 20000 in
set_option maxHeartbeats 4000000 in
theorem made_law (p : Option Addr) (n c : Nat) (ms : List Mb) (w : World) (hm : RdM w p n c ms) (M : List Mb) (hF : FirstIs n ms (.ok (1, M))) (hM : chk 1 M = true) (q : Option Addr) (m d : Nat) (ls : List Dj) (h : RdJ w q m d ls) (hm1 : m ≤ 150) (hsm : Small ls) :
    Calls Try.prog 18 #[.slice p n c, .slice q m d] w fun o w' => ∃ v, o = .returned v ∧ ∃ g r, v = .pointer (some ⟨g, 0, none⟩) ∧ LP w' g r (playJ ⟨1, M, 0, [(1, M)]⟩ ls m) ∧ w.heap.size ≤ g ∧ w.heap.size ≤ r ∧ Below w.heap.size w w' := by
  have hN := New_ok p n c ms w hm M hF
  have hs0 : (⟨1, M, 0, [(1, M)]⟩ : PL).ok := PL.first_ok hM
  clear hm hF
  go_enter Try.func18, Try.ntmps18
  go_wp2_with fail
  refine hN.mono ?_
  rintro o w1 ⟨v, rfl, g, r1, rfl, hL1, hg, hr1, hb1⟩
  go_wp2_with fail
  generalize hs00 : (⟨1, M, 0, [(1, M)]⟩ : PL) = s0 at *
  have HS00 : Hid ((⟨1, M, 0, [(1, M)]⟩ : PL) = s0) := hs00
  clear hs00
  generalize hB : w.heap.size = B at *
  go_loopw [16] (fun i wr => ∃ (k r : Nat), k ≤ m ∧ i = .int .i64 k ∧ LP wr g r (playJ s0 ls k) ∧ B ≤ r ∧ Below B w wr) (fun i _ => m - (intOf i).toNat)
  case atStart => exact ⟨0, r1, Nat.zero_le _, rfl, hL1, hr1, hb1⟩
  case round =>
    clear hL1 hr1 hb1 hN
    obtain ⟨k, r, hk, rfl, hL, hr, hb⟩ := hrel
    by_cases hkn : k < m
    · have hki : (k : Int) < (m : Int) := by omega
      have hs := playJ_ok hs0 ls k
      have HS : Hid (playJ s0 ls (k + 1) = stepJ (playJ s0 ls k) (ls.getD k default)) := rfl
      have hl6 := (chk_parts hs.chk).2.2.2
      have hse : 0 ≤ (playJ s0 ls k).e ∧ (playJ s0 ls k).e ≤ 1099511627776 := by have := chk_parts hs.chk; omega
      generalize playJ s0 ls k = s at *
      obtain ⟨b, o, rfl, hc⟩ := h.cells (by omega)
      have hck := hc k hkn
      have hblt := World.block_lt_of_cell? _ _ hck.c0
      have hck2 := hck.below hb (by rw [← hB]; exact hblt)
      have hrd0 := (h.rd k hkn).below (hB ▸ hb)
      have hbl : (ls.getD k default).bl ≤ 1099511627776 := by have := hsm k (by rw [h.len]; exact hkn); omega
      clear hc hck h hsm hs0
      generalize ls.getD k default = z at *
      obtain ⟨xk, xn, xs, xe, bq, bl, bc, raw, by_, off, xb⟩ := z
      obtain ⟨c0, c1, c2, c3, c4, c5, c6, c7⟩ := hck2
      dsimp only at *
      have hba := below_alloc wr (.cells #[.int .i64 xk, .int .i64 xn, .int .i64 xs, .int .i64 xe, .slice bq bl bc, .bool raw, .int .i64 by_, .int .i64 off] 57)
      have hA5 := At.new 57 wr #[.int .i64 xk, .int .i64 xn, .int .i64 xs, .int .i64 xe, .slice bq bl bc, .bool raw, .int .i64 by_, .int .i64 off]
      have hL5 := hL.below hba
      have hrd5 := hrd0.below hba
      have hgs : B ≤ wr.heap.size := by rw [← hB]; exact hb.size
      have hxg : wr.heap.size ≠ g := Nat.ne_of_gt hL.lt.1
      have hxr : wr.heap.size ≠ r := Nat.ne_of_gt hL.lt.2
      have hB5 : B ≤ (wr.alloc (.cells #[.int .i64 xk, .int .i64 xn, .int .i64 xs, .int .i64 xe, .slice bq bl bc, .bool raw, .int .i64 by_, .int .i64 off] 57)).heap.size := Nat.le_trans hgs hba.size
      have hb5 : Below B w (wr.alloc (.cells #[.int .i64 xk, .int .i64 xn, .int .i64 xs, .int .i64 xe, .slice bq bl bc, .bool raw, .int .i64 by_, .int .i64 off] 57)) := hb.trans (hba.mono hgs)
      clear hL hrd0 hb hba hgs
      go_wp2_with fail
      generalize (wr.alloc (.cells #[.int .i64 xk, .int .i64 xn, .int .i64 xs, .int .i64 xe, .slice bq bl bc, .bool raw, .int .i64 by_, .int .i64 off] 57)) = w5 at *
      generalize wr.heap.size = x at *
      have hS5 : Bl w5 w5.drew := (Below.refl _ _).drew
      refine wp_region_det [0, 1, 2, 5, 6, 8] (fun W => At 57 W x #[.int .i64 xk, .int .i64 xn, .int .i64 xs, .int .i64 xe, .slice bq bl bc, .bool raw, .int .i64 by_, .int .i64 off]) (Bl w5) (by kernel_rfl) hS5 ?_
      refine wpDet_take ?vM0 (Bl.stays w5) (fun W h => hA5.below h) (i := 0) rfl (by kernel_rfl) (by kernel_rfl) (by kernel_rfl) (by kernel_rfl) (fun _ _ _ h => h) (Gives.value (by rfl) ?yM0) ?rM0
      case yM0 => (intro w' hSw; go_simp; try with_reducible rfl)
      (try simp only [Act.put, List.getElem_toArray, List.getElem_cons_zero, List.getElem_cons_succ, List.setIfInBounds_toArray, List.set_cons_zero, List.set_cons_succ])
      refine wpDet_take _ (Bl.stays w5) (fun W h => hA5.below h) (i := 1) rfl (by kernel_rfl) (by kernel_rfl) (by kernel_rfl) (by kernel_rfl) (fun _ _ _ h => h) (Gives.of_yields (yieldsIf_load_mid (by rfl) _ _ rfl _ _ rfl _ _ (fun W h => h.range) Try.underlying57 rfl sizeDo)) ?_
      (try simp only [Act.put, List.getElem_toArray, List.getElem_cons_zero, List.getElem_cons_succ, List.setIfInBounds_toArray, List.set_cons_zero, List.set_cons_succ])
      refine wpDet_take ?vM2 (Bl.stays w5) (fun W h => hA5.below h) (i := 2) rfl (by kernel_rfl) (by kernel_rfl) (by kernel_rfl) (by kernel_rfl) (fun _ _ _ h => h) (Gives.value (by rfl) ?yM2) ?rM2
      case yM2 => (intro w' hSw; go_simp; try with_reducible rfl)
      (try simp only [Act.put, List.getElem_toArray, List.getElem_cons_zero, List.getElem_cons_succ, List.setIfInBounds_toArray, List.set_cons_zero, List.set_cons_succ])
      refine wpDet_take _ (Bl.stays w5) (fun W h => hA5.below h) (i := 5) rfl (by kernel_rfl) (by kernel_rfl) (by kernel_rfl) (by kernel_rfl) (fun _ _ _ h => h) (Gives.of_yields (yieldsIf_load_mid (by rfl) _ _ rfl _ _ rfl _ _ (fun W h => h.range) Try.underlying57 rfl sizeDo)) ?_
      (try simp only [Act.put, List.getElem_toArray, List.getElem_cons_zero, List.getElem_cons_succ, List.setIfInBounds_toArray, List.set_cons_zero, List.set_cons_succ])
      refine wpDet_take ?vM6 (Bl.stays w5) (fun W h => hA5.below h) (i := 6) rfl (by kernel_rfl) (by kernel_rfl) (by kernel_rfl) (by kernel_rfl) (fun _ _ _ h => h) (Gives.value (by rfl) ?yM6) ?rM6
      case yM6 => (intro w' hSw; go_simp; try with_reducible rfl)
      (try simp only [Act.put, List.getElem_toArray, List.getElem_cons_zero, List.getElem_cons_succ, List.setIfInBounds_toArray, List.set_cons_zero, List.set_cons_succ])
      refine wpDet_ready (rs := [3]) (by kernel_rfl) (by simp) (AllDet.cons rfl (fun V hV K hK => ?_) AllDet.nil)
      rw [if_pos (by rfl)]
      refine wp_enterE 28 #[.pointer (some ⟨g, 0, none⟩)] (by first | (go_simp; done) | (go_simp; rfl)) (fun v W => v = .int .i64 s.at_ ∧ W = V) ((At_any g r s V (hL5.below hV)).mono fun e' w' hh => ⟨_, hh.1, rfl, hh.2⟩) ?_
      rintro v V7 ⟨rfl, hw7⟩
      subst V7
      refine hK.out (Bl w5) _ _ (Bl.stays w5) (fun _ => (fun W h => hA5.below h)) hV ?_
      clear hK K hV
      (try simp only [Act.put, List.getElem_toArray, List.getElem_cons_zero, List.getElem_cons_succ, List.setIfInBounds_toArray, List.set_cons_zero, List.set_cons_succ])
      refine wpDet_ready (rs := [4]) (by kernel_rfl) (by simp) (AllDet.cons rfl (fun V hV K hK => ?_) AllDet.nil)
      rw [if_pos (by rfl)]
      refine wp_enterE 30 #[.agg #[.int .i64 xk, .int .i64 xn, .int .i64 xs, .int .i64 xe, .slice bq bl bc, .bool raw, .int .i64 by_, .int .i64 off], .int .i64 s.at_] (by first | (go_simp; done) | (go_simp; rfl)) (fun v W => v = .int .i64 (ixR ⟨xk, xn, xs, xe, bq, bl, bc, raw, by_, off, xb⟩ s.at_) ∧ Below V.heap.size V W) ((index_any xk xn xs xe bq bl bc raw by_ off xb s.at_ ⟨hs.at0, hs.at1⟩ V).mono fun e' w' hh => ⟨_, hh.1, rfl, hh.2⟩) ?_
      rintro v V7 ⟨rfl, hb7⟩
      refine hK.out (Bl w5) _ _ (Bl.stays w5) (fun _ => (fun W h => hA5.below h)) (Bl.stays w5 V V7 hV hb7) ?_
      clear hK K hV hb7
      (try simp only [Act.put, List.getElem_toArray, List.getElem_cons_zero, List.getElem_cons_succ, List.setIfInBounds_toArray, List.set_cons_zero, List.set_cons_succ])
      refine wpDet_ready (rs := [7]) (by kernel_rfl) (by simp) (AllDet.cons rfl (fun V hV K hK => ?_) AllDet.nil)
      rw [if_pos (by rfl)]
      refine wp_enterE 20 #[.pointer (some ⟨g, 0, none⟩)] (by first | (go_simp; done) | (go_simp; rfl)) (fun v W => (∃ q d, v = .agg #[.int .i64 s.e, .slice q s.ms.length d]) ∧ Below V.heap.size V W) ((Chain_any g r s V (hL5.below hV) hl6).mono fun e' w' hh => by obtain ⟨v, h1, q, d, h2, _, _, h3⟩ := hh; exact ⟨v, h1, ⟨q, d, h2⟩, h3⟩) ?_
      rintro v V7 ⟨⟨q7, d7, rfl⟩, hb7⟩
      refine hK.out (Bl w5) _ _ (Bl.stays w5) (fun _ => (fun W h => hA5.below h)) (Bl.stays w5 V V7 hV hb7) ?_
      clear hK K hV hb7
      (try simp only [Act.put, List.getElem_toArray, List.getElem_cons_zero, List.getElem_cons_succ, List.setIfInBounds_toArray, List.set_cons_zero, List.set_cons_succ])
      refine wpDet_take ?vM8 (Bl.stays w5) (fun W h => hA5.below h) (i := 8) rfl (by kernel_rfl) (by kernel_rfl) (by kernel_rfl) (by kernel_rfl) (fun _ _ _ h => h) (Gives.value (by rfl) ?yM8) ?rM8
      case yM8 => (intro w' hSw; have hfe := field_e; go_simp; try with_reducible rfl)
      (try simp only [Act.put, List.getElem_toArray, List.getElem_cons_zero, List.getElem_cons_succ, List.setIfInBounds_toArray, List.set_cons_zero, List.set_cons_succ])
      refine wpDet_ready (rs := [9]) (by kernel_rfl) (by simp) (AllDet.cons rfl (fun V hV K hK => ?_) AllDet.nil)
      rw [if_pos (by rfl)]
      refine wp_enterE 26 #[.agg #[.int .i64 xk, .int .i64 xn, .int .i64 xs, .int .i64 xe, .slice bq bl bc, .bool raw, .int .i64 by_, .int .i64 off], .int .i64 s.e] (by first | (go_simp; done) | (go_simp; rfl)) (fun v W => Dat V W ⟨xk, xn, xs, xe, bq, bl, bc, raw, by_, off, xb⟩ s.e v ∧ Below V.heap.size V W) ((data_any ⟨xk, xn, xs, xe, bq, bl, bc, raw, by_, off, xb⟩ s.e hse V (hrd5.below hV)).mono fun e' w' hh => by obtain ⟨v, h1, h2, h3⟩ := hh; exact ⟨v, h1, h2, h3⟩) ?_
      rintro v V7 ⟨⟨p9, n9, c9, rfl, hrd9, hby9, hn9, hfar9⟩, hb7⟩
      refine hK.out (fun W => Bl w5 W ∧ Rd .u8 W p9 n9 c9 (dataR ⟨xk, xn, xs, xe, bq, bl, bc, raw, by_, off, xb⟩ s.e)) _ _ ((Bl.stays w5).and (Rd.stays _ _ _ _)) (fun _ W h => hA5.below h.1) ⟨Bl.stays w5 V V7 hV hb7, hrd9⟩ ?_
      clear hK K hV hb7 hrd9 hfar9
      (try simp only [Act.put, List.getElem_toArray, List.getElem_cons_zero, List.getElem_cons_succ, List.setIfInBounds_toArray, List.set_cons_zero, List.set_cons_succ])
      refine wpDet_ready (rs := [10]) (by kernel_rfl) (by simp) (AllDet.cons rfl (fun V hV K hK => ?_) AllDet.nil)
      rw [if_pos (by rfl)]
      have hLV := hL5.below hV.1
      have hA9 := hA5.below hV.1
      have hb9 := Bl.out hV.1
      have hAp := Apply_any g r s V hLV hs (ixR ⟨xk, xn, xs, xe, bq, bl, bc, raw, by_, off, xb⟩ s.at_) p9 n9 c9 (dataR ⟨xk, xn, xs, xe, bq, bl, bc, raw, by_, off, xb⟩ s.e) hV.2 hby9 (hn9.elim (fun h => Nat.le_trans h hbl) (fun h => by omega))
      refine wp_enterE 27 #[.pointer (some ⟨g, 0, none⟩), .int .i64 (ixR ⟨xk, xn, xs, xe, bq, bl, bc, raw, by_, off, xb⟩ s.at_), .slice p9 n9 c9] (by first | (go_simp; done) | (go_simp; rfl)) (fun v W => v = .int .i64 (s.app (ixR ⟨xk, xn, xs, xe, bq, bl, bc, raw, by_, off, xb⟩ s.at_) (dataR ⟨xk, xn, xs, xe, bq, bl, bc, raw, by_, off, xb⟩ s.e)).1 ∧ Aft V W g r (s.app (ixR ⟨xk, xn, xs, xe, bq, bl, bc, raw, by_, off, xb⟩ s.at_) (dataR ⟨xk, xn, xs, xe, bq, bl, bc, raw, by_, off, xb⟩ s.e)).2 ∧ Ex2 g r V W) (hAp.mono fun e' w' hh => ⟨_, hh.1, rfl, hh.2⟩) ?_
      rintro v V7 ⟨rfl, hAf, hE7⟩
      obtain ⟨r7, hr7, hL7⟩ := hAf
      have hA7 : At 57 V7 x #[.int .i64 xk, .int .i64 xn, .int .i64 xs, .int .i64 xe, .slice bq bl bc, .bool raw, .int .i64 by_, .int .i64 off] := (hE7.block x hA9.lt hxg hxr).trans hA9
      have hB7 := hb9.mono hB5 |>.trans (hE7.below hg hr (Nat.le_trans hB5 hb9.size))
      refine hK.out (fun W => LP W g r7 (s.app (ixR ⟨xk, xn, xs, xe, bq, bl, bc, raw, by_, off, xb⟩ s.at_) (dataR ⟨xk, xn, xs, xe, bq, bl, bc, raw, by_, off, xb⟩ s.e)).2 ∧ At 57 W x #[.int .i64 xk, .int .i64 xn, .int .i64 xs, .int .i64 xe, .slice bq bl bc, .bool raw, .int .i64 by_, .int .i64 off] ∧ B ≤ W.heap.size ∧ Below B w5 W) _ _ (fun _ _ h hb => ⟨h.1.below hb, h.2.1.below hb, Nat.le_trans h.2.2.1 hb.size, h.2.2.2.trans (hb.mono h.2.2.1)⟩) (fun _ W h => h.2.1) ⟨hL7, hA7, Nat.le_trans hB5 (Nat.le_trans hb9.size hE7.size), hB7⟩ ?_
      have hr70 : B ≤ r7 := hr7.elim (fun h => by rw [h]; exact hr) (fun h => Nat.le_trans (Nat.le_trans hB5 hb9.size) h)
      clear hK K hV hLV hA9 hb9 hAp hE7 hL7 hA7 hB7 hr7
      (try simp only [Act.put, List.getElem_toArray, List.getElem_cons_zero, List.getElem_cons_succ, List.setIfInBounds_toArray, List.set_cons_zero, List.set_cons_succ])
      refine wpDet_done (by kernel_rfl) (fun W9 hV => ?_) _
      obtain ⟨hL9, hA9, hs9, hB9⟩ := hV
      have hBf := hb5.trans hB9
      have hL9' : LP W9 g r7 (playJ s0 ls (k + 1)) := by rw [HS.out]; exact hL9
      clear hL5 hA5 hrd5 hL9 hA9 hb5
      go_wp2_with fail
      exact ⟨⟨k + 1, r7, by omega, by go_num, hL9', hr70, hBf⟩, by simp [intOf]; omega⟩
    · obtain rfl : k = m := by omega
      clear h hsm
      go_wp2_with fail
      go_ret
      exact ⟨_, rfl, g, r, rfl, by rw [HS00.out]; exact hL, by rw [hB]; exact hg, by rw [hB]; exact hr, by rw [hB]; exact hb⟩

end Go.Proofs.Ytjhcadckmklgnaa.M
