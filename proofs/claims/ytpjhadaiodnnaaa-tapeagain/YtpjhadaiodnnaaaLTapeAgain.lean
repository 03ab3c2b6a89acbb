/-
  Own text: the walk of the law TapeAgain.
-/
import Derived.Test.YtpjhadaiodnnaaaTAg2
namespace Go.Proofs.Ytpjhadaiodnnaaa.M
open Go.ChangeShapes Go.WideShapes Go.ChangeAt Go.RowKit
set_option linter.unusedSimpArgs false

theorem one_list (w : World) (p : Option Addr) (n c : Nat) (ls : List Tv) (hl : RdT w p n ls) :
    RdTT (w.alloc (.cells #[.slice p n c] 42)) (some ⟨w.heap.size, 0, none⟩) 1 [ls] ∧ Below w.heap.size w (w.alloc (.cells #[.slice p n c] 42)) := by
  have h1 := below_alloc w (.cells #[.slice p n c] 42)
  have hA := At.new 42 w #[.slice p n c]
  refine ⟨⟨rfl, fun _ => ⟨w.heap.size, 0, rfl, fun j hj => ?_⟩⟩, h1⟩
  match j, hj with
  | 0, _ => exact ⟨p, n, c, hA.cell 0, hl.below h1⟩

theorem New_D (w : World) : Calls Try.prog 9 #[.int .i64 2097152] w fun e w' => ∃ g, e = .returned (.tuple #[.pointer (some ⟨g, 0, none⟩), .int .i64 0]) ∧ (∃ own d, DS w' w.heap.size 0 g own d mq0) ∧ Below w.heap.size w w' := by
  refine (New_ok w 0 2097152 (by decide) (by decide)).mono ?_
  rintro e w1 ⟨rfl, h1, hb1⟩
  exact ⟨_, rfl, ⟨_, _, h1, hb1.size, Nat.le_refl _, fun _ _ => rfl⟩, hb1⟩

/-- A tape that was opened. -/
structure AgO (w : World) (L g gt : Nat) (own : Nat → Nat) (m : PD) (t : TP) : Prop where
  ts : TSx w L 0 g gt own m t
  cnt : cnt m = (t.file, t.r, true)
  kept : t.kept = t.r.recs.length
  cal : Cal m
  bys : ∀ i, i < 2 → By (m.f i).told
  fit : t.r.fit
  file : t.file ≤ 1
  few : t.r.recs.length ≤ 4096
  keep : m.keep = []
  ok : m.ok 40040000

theorem Open_ag (w : World) (L g : Nat) (own : Nat → Nat) (d : Dk) (m : PD) (hD : DS w L 0 g own d m) (h2 : Two m 16384) (hc : Cal m) (hroom : m.room = 2097152) (hkeep : m.keep = []) (hok : m.ok 40000) :
    Calls Try.prog 13 #[.pointer (some ⟨g, 0, none⟩)] w fun e w' => (e = .returned (.tuple #[.pointer none, .int .i64 5]) ∨ ∃ gt own2 m' t', e = .returned (.tuple #[.pointer (some ⟨gt, 0, none⟩), .int .i64 0]) ∧ AgO w' L g gt own2 m' t') ∧ Below L w w' := by
  obtain ⟨hf, hfit, hg40, hn5⟩ := cnt_fit h2.bys
  have hn := hn5 16384 h2.lens
  refine (Open_S w L 0 g own m 40000 (by decide) ⟨d, hD⟩ ⟨hok, hc.up⟩ (by decide) h2.bys hf hfit (by omega)).mono ?_
  rintro e w' ⟨gt, rfl, own2, h3, h4, h5⟩
  refine ⟨?_, h5.lowL hD.lw (fun k hk e => e ⟨hD.low k hk, by have := hD.lg; omega⟩)⟩
  rcases opM_again hc h2 hroom with e5 | ⟨e0, k1, k2, k3, k4, k5, k6, k7, k8, k9⟩
  · left
    rw [e5]
    rfl
  · right
    rw [e0]
    exact ⟨gt, own2, _, _, rfl, h3, k1, k2, k3, k4, k5, k6, k7, k8.trans hkeep, k9 40000 hok⟩

set_option maxRecDepth 20000 in
set_option maxHeartbeats 8000000 in
theorem walk_TapeAgain (w : World) (p : Option Addr) (n c : Nat) (xa : List Int) (hp : Rd .u8 w p n c xa) (hya : By xa) (q : Option Addr) (m d : Nat) (xb : List Int) (hq : Rd .u8 w q m d xb) (hyb : By xb) (r : Option Addr) (k e : Nat) (ls : List Tv) (hl : RdT w r k ls) :
    Calls Try.prog 5 #[.slice p n c, .slice q m d, .slice r k e] w fun e w' => e = .returned (.bool true) ∧ Below w.heap.size w w' := by
  obtain ⟨hTT, hb2⟩ := one_list w r k e ls hl
  have hSh := short_any _ _ 1 1 _ hTT (by decide)
  have hAw := awake_any w
  obtain ⟨H, HH⟩ : ∃ z, Hid (z = w.heap.size) := ⟨_, rfl⟩
  have HB2 : Hid (Below H w (w.alloc (.cells #[.slice r k e] 42))) := by rw [HH.out]; exact hb2
  have HL : Hid (RdT w r k ls) := hl
  have HP : Hid (Rd .u8 w p n c xa) := hp
  have HQ : Hid (Rd .u8 w q m d xb) := hq
  have HYA : Hid (By xa) := hya
  have HYB : Hid (By xb) := hyb
  clear hTT hb2 hl hq hyb hp hya
  go_enter Try.func5, Try.ntmps5
  by_cases hn : (16384 : Int) < (n : Int)
  · clear hSh
    go_wp2_with fail
    refine hAw.mono ?_
    rintro e2 w9 ⟨rfl, hb9⟩
    clear hAw
    go_wp2_with fail
    go_ret
    exact ⟨rfl, hb9⟩
  by_cases hm : (16384 : Int) < (m : Int)
  · clear hSh
    go_wp2_with fail
    refine hAw.mono ?_
    rintro e2 w9 ⟨rfl, hb9⟩
    clear hAw
    go_wp2_with fail
    go_ret
    exact ⟨rfl, hb9⟩
  clear hAw
  go_wp2_with fail
  refine hSh.mono ?_
  rintro e1 w3 ⟨⟨b, rfl, hbt⟩, hb3⟩
  clear hSh
  have HB3 : Hid (Below H w w3) := HB2.out.trans (hb3.mono (by rw [HH.out]; simp))
  have HH3 : Hid (H ≤ w3.heap.size) := Nat.le_trans (by rw [HH.out]; exact Nat.le_refl _) HB3.out.size
  have HBT : Hid (b = true → totT [ls] 1 ≤ 16384 ∧ cntT [ls] 1 ≤ 60) := hbt
  have hAw := awake_any w3
  clear hb3 hbt
  cases b with
  | false =>
    go_wp2_with fail
    refine hAw.mono ?_
    rintro e2 w9 ⟨rfl, hb9⟩
    clear hAw
    have HB9 : Hid (Below H w w9) := HB3.out.trans (hb9.mono HH3.out)
    clear hb9
    go_wp2_with fail
    go_ret
    exact ⟨rfl, by have h := HB9.out; rw [HH.out] at h; exact h⟩
  | true =>
    obtain ⟨hb1, hb2⟩ := HBT.out rfl
    have t0 := tot_each (LL := [ls]) 1 hb1 0 (by decide)
    have HN : Hid (k ≤ 60) := by show _ ≤ _; rw [← HL.out.len]; exact Nat.le_trans t0.2 hb2
    have hxa : xa.length ≤ 16384 := by rw [HP.out.len]; omega
    have hxb : xb.length ≤ 16384 := by rw [HQ.out.len]; omega
    have HM : Hid (Two (agM xa xb) 16384 ∧ Cal (agM xa xb) ∧ (agM xa xb).room = 2097152 ∧ (agM xa xb).keep = [] ∧ (agM xa xb).ok 40000 ∧ Fit (ptM mq0 0 xa).1 20000) := agM_ok hxa hxb HYA.out HYB.out
    have HNM : Hid (n ≤ 16384 ∧ m ≤ 16384) := ⟨by omega, by omega⟩
    have hNw := New_D w3
    obtain ⟨L, HLL⟩ : ∃ z, Hid (z = w3.heap.size) := ⟨_, rfl⟩
    rw [← HLL.out] at hNw
    have HHL : Hid (H ≤ L) := by rw [HLL.out]; exact HH3.out
    have HLO : Hid (w.heap.size ≤ L) := by rw [← HH.out]; exact HHL.out
    clear t0 hb1 hb2 HBT hAw hxa hxb hn hm
    go_wp2_with fail
    refine hNw.mono ?_
    rintro e2 w4 ⟨g, rfl, ⟨ow4, d4, hD4⟩, hb4⟩
    clear hNw
    have hbw4 : Below H w w4 := HB3.out.trans (hb4.mono HHL.out)
    have hA : Calls Try.prog 11 #[.pointer (some ⟨g, 0, none⟩), .int .i64 0, .slice p n c] w4 fun e w' => e = .returned (.int .i64 (ptM mq0 0 xa).2) ∧ (∃ own2 d2, DS w' L 0 g own2 d2 (ptM mq0 0 xa).1) ∧ Below L w4 w' :=
      hD4.app ⟨mq0_ok, rfl⟩ (by decide) 0 (by decide) p n c xa (HP.out.below' (by rw [← HH.out]; exact hbw4)) (fun x ex h0 => Nat.lt_of_lt_of_le (HP.out.ltb x ex h0) HLO.out) (by have := HNM.out.1; omega)
    have HB4 : Hid (Below L w3 w4) := hb4
    clear hD4 hb4 hbw4
    generalize (ptM mq0 0 xa).2 = c4 at hA
    go_wp2_with fail
    refine hA.mono ?_
    rintro e2 w5 ⟨rfl, ⟨ow5, d5, hD5⟩, hb5⟩
    clear hA
    have HB5 : Hid (Below L w3 w5) := HB4.out.trans hb5
    have hbw5 : Below H w w5 := HB3.out.trans (HB5.out.mono HHL.out)
    have hA : Calls Try.prog 11 #[.pointer (some ⟨g, 0, none⟩), .int .i64 1, .slice q m d] w5 fun e w' => e = .returned (.int .i64 (ptM (ptM mq0 0 xa).1 1 xb).2) ∧ (∃ own2 d2, DS w' L 0 g own2 d2 (agM xa xb)) ∧ Below L w5 w' :=
      hD5.app HM.out.2.2.2.2.2 (by decide) 1 (by decide) q m d xb (HQ.out.below' (by rw [← HH.out]; exact hbw5)) (fun x ex h0 => Nat.lt_of_lt_of_le (HQ.out.ltb x ex h0) HLO.out) (by have := HNM.out.2; omega)
    clear hD5 hb5 hbw5
    generalize (ptM (ptM mq0 0 xa).1 1 xb).2 = c5 at hA
    go_wp2_with fail
    refine hA.mono ?_
    rintro e2 w6 ⟨rfl, ⟨ow6, d6, hD6⟩, hb6⟩
    clear hA
    have HB6 : Hid (Below L w3 w6) := HB5.out.trans hb6
    have hO := Open_ag w6 L g ow6 d6 (agM xa xb) hD6 HM.out.1 HM.out.2.1 HM.out.2.2.1 HM.out.2.2.2.1 HM.out.2.2.2.2.1
    clear hD6 hb6 HB4 HB5
    go_wp2_with fail
    refine hO.mono ?_
    rintro e2 w7 ⟨hE | ⟨gt, ow7, mm, tt, hE, hAg⟩, hb7⟩
    · subst hE
      clear hO
      have HBW : Hid (Below H w w7) := HB3.out.trans ((HB6.out.trans hb7).mono HHL.out)
      have hAw := awake_any w7
      clear hb7
      go_wp2_with fail
      refine hAw.mono ?_
      rintro e9 w99 ⟨rfl, hb99⟩
      clear hAw
      have HB99 : Hid (Below H w w99) := HBW.out.trans (hb99.mono (Nat.le_trans (by rw [HH.out]; exact Nat.le_refl _) HBW.out.size))
      clear hb99
      go_wp2_with fail
      go_ret
      exact ⟨rfl, by have h := HB99.out; rw [HH.out] at h; exact h⟩
    subst hE
    clear hO
    have HB7 : Hid (Below L w3 w7) := HB6.out.trans hb7
    have HAG : Hid (AgO w7 L g gt ow7 mm tt) := hAg
    have hCl := Clone_X w7 L 0 1 g gt ow7 mm tt 40040000 hAg.ts hAg.ok (by decide)
    clear hb7 hAg HB6
    go_wp2_with fail
    refine hCl.mono ?_
    rintro e3 w8 ⟨gc, rfl, ⟨oc, dc, hD8⟩, hb8⟩
    clear hCl
    have hOp := Open_wx w8 w7.heap.size 1 gc oc mm 40040000 ⟨dc, hD8⟩ ⟨HAG.out.ok, HAG.out.cal.up⟩ (by decide) HAG.out.bys tt.file tt.r HAG.out.cnt
    have HD8 : Hid (DS w8 w7.heap.size 1 gc oc dc mm ∧ Below w7.heap.size w7 w8) := ⟨hD8, hb8⟩
    clear hD8 hb8
    go_wp2_with fail
    refine hOp.mono ?_
    rintro e3 w9 ⟨gu, o2, rfl, hU, ho2, hb9⟩
    clear hOp
    obtain ⟨L2, HL2⟩ : ∃ z, Hid (z = w7.heap.size) := ⟨_, rfl⟩
    have HI0 : Hid (AgI w3 w9 L L2 g gt gc gu ow7 o2 0 mm tt) := by
      rw [HL2.out]
      exact AgI.mk0 HAG.out.ts HB7.out HD8.out.1 HD8.out.2 hU ho2 hb9 HAG.out.kept HAG.out.cal HAG.out.keep HAG.out.ok HAG.out.file HAG.out.fit HAG.out.few
    clear hU ho2 hb9 HD8 HAG HB7
    go_wp2_with fail
    go_loopw [69] (fun ix wr => ∃ (kk jj : Nat) (oa ob : Nat → Nat) (m1 : PD) (t1 : TP), kk ≤ k ∧ jj ≤ kk ∧ ix = .int .i64 kk ∧ AgI w3 wr L L2 g gt gc gu oa ob jj m1 t1) (fun ix _ => k - (intOf ix).toNat)
    case atStart => exact ⟨0, 0, ow7, o2, mm, tt, Nat.zero_le _, Nat.le_refl _, rfl, HI0.out⟩
    case round =>
      obtain ⟨kk, jj, oa, ob, m1, t1, hkk, hjj, rfl, hI⟩ := hrel
      by_cases hkn : kk < k
      · have hki : (kk : Int) < (k : Int) := by omega
        have hj60 : jj ≤ 60 := by have := HN.out; omega
        obtain ⟨lb, lo, rfl, hcl⟩ := HL.out.cells (by omega)
        have hbw : Below H w wr := HB3.out.trans (hI.bel.mono HHL.out)
        have hat := (hcl kk hkn).below hbw (by rw [HH.out]; exact World.block_lt_of_cell? _ _ (hcl kk hkn).c0)
        have hrd := HL.out.rd kk hkn
        obtain ⟨x, Hx⟩ : ∃ z, Hid (z = ls.getD kk .z0) := ⟨_, rfl⟩
        rw [← Hx.out] at hat hrd
        have HI : Hid (AgI w3 wr L L2 g gt gc gu oa ob jj m1 t1) := hI
        have HRD : Hid (x.rd w) := hrd
        obtain ⟨c0, c1, c2, c3, c4⟩ := hat
        have hbx := below_alloc wr (.cells #[.int .i64 x.op, .int .i64 x.n, .slice x.bq x.bl x.bc, .slice x.lq x.ll x.lc, .slice x.kq x.kl x.kc] 52)
        have hA := At.new 52 wr #[.int .i64 x.op, .int .i64 x.n, .slice x.bq x.bl x.bc, .slice x.lq x.ll x.lc, .slice x.kq x.kl x.kc]
        have HSA : Hid (Sa w3 L L2 g gt gc gu oa ob jj m1 t1 wr.heap.size x.op x.bq x.bl x.bc (wr.alloc (.cells #[.int .i64 x.op, .int .i64 x.n, .slice x.bq x.bl x.bc, .slice x.lq x.ll x.lc, .slice x.kq x.kl x.kc] 52))) := ⟨⟨hA.cell 0, hA.cell 2⟩, hI.below hbx⟩
        clear hI hcl hbw hrd hbx hA
        go_wp2_with fail
        have hS5 := Sa.stays _ _ HSA.out (Below.refl _ _).drew
        have hSw5 : ∀ W, (Sa w3 L L2 g gt gc gu oa ob jj m1 t1 wr.heap.size x.op x.bq x.bl x.bc) W → (W.cell? ⟨wr.heap.size, 0, none⟩ = some (.int .i64 x.op) ∧ W.cell? ⟨wr.heap.size, 2, none⟩ = some (.slice x.bq x.bl x.bc)) := fun W hW => ⟨hW.1.1, hW.1.2⟩
        refine wp_region_dyn [0, 1, 2, 3, 4, 5, 6, 7, 9, 10, 11] (fun W => W.cell? ⟨wr.heap.size, 0, none⟩ = some (.int .i64 x.op) ∧ W.cell? ⟨wr.heap.size, 2, none⟩ = some (.slice x.bq x.bl x.bc)) (Sa w3 L L2 g gt gc gu oa ob jj m1 t1 wr.heap.size x.op x.bq x.bl x.bc) (by kernel_rfl) hS5 ?_
        refine wpDyn_take ?vP0 Sa.stays hSw5 (i := 0) rfl (by kernel_rfl) (by kernel_rfl) (by kernel_rfl) (by kernel_rfl) (by kernel_rfl) (fun _ _ _ h => h) (Gives.value (by rfl) ?yP0) ?rP0
        case yP0 => (intro w' hSw; (try dsimp only at hSw); go_simp; try with_reducible rfl)
        (try simp only [Act.put, List.getElem_toArray, List.getElem_cons_zero, List.getElem_cons_succ, List.setIfInBounds_toArray, List.set_cons_zero, List.set_cons_succ])
        refine wpDyn_take ?vP1 Sa.stays hSw5 (i := 1) rfl (by kernel_rfl) (by kernel_rfl) (by kernel_rfl) (by kernel_rfl) (by kernel_rfl) (fun _ _ _ h => h) (Gives.value (by rfl) ?yP1) ?rP1
        case yP1 => (intro w' hSw; have hz0 := hSw.1; (try dsimp only at hSw); go_simp; try with_reducible rfl)
        (try simp only [Act.put, List.getElem_toArray, List.getElem_cons_zero, List.getElem_cons_succ, List.setIfInBounds_toArray, List.set_cons_zero, List.set_cons_succ])
        refine wpDyn_take ?vP2 Sa.stays hSw5 (i := 2) rfl (by kernel_rfl) (by kernel_rfl) (by kernel_rfl) (by kernel_rfl) (by kernel_rfl) (fun _ _ _ h => h) (Gives.value (by rfl) ?yP2) ?rP2
        case yP2 => (intro w' hSw; (try dsimp only at hSw); go_simp; try with_reducible rfl)
        (try simp only [Act.put, List.getElem_toArray, List.getElem_cons_zero, List.getElem_cons_succ, List.setIfInBounds_toArray, List.set_cons_zero, List.set_cons_succ])
        refine wpDyn_take ?vP3 Sa.stays hSw5 (i := 3) rfl (by kernel_rfl) (by kernel_rfl) (by kernel_rfl) (by kernel_rfl) (by kernel_rfl) (fun _ _ _ h => h) (Gives.value (by rfl) ?yP3) ?rP3
        case yP3 => (intro w' hSw; (try dsimp only at hSw); go_simp; try with_reducible rfl)
        (try simp only [Act.put, List.getElem_toArray, List.getElem_cons_zero, List.getElem_cons_succ, List.setIfInBounds_toArray, List.set_cons_zero, List.set_cons_succ])
        generalize hgb : decide (bits BinOp.and IntKind.i64 x.op 7 < 5) = gb
        clear hgb
        cases gb with
        | false =>
          refine wpDyn_take ?vF4 Sa.stays hSw5 (i := 4) rfl (by kernel_rfl) (by kernel_rfl) (by kernel_rfl) (by kernel_rfl) (by kernel_rfl) (fun _ _ _ h => h) (Gives.value (by rfl) ?yF4) ?rF4
          case yF4 => (intro w' hSw; (try dsimp only at hSw); go_simp; try with_reducible rfl)
          (try simp only [Act.put, List.getElem_toArray, List.getElem_cons_zero, List.getElem_cons_succ, List.setIfInBounds_toArray, List.set_cons_zero, List.set_cons_succ])
          refine wpDyn_take undef Sa.stays hSw5 (i := 5) rfl (by kernel_rfl) (by kernel_rfl) (by kernel_rfl) (by kernel_rfl) (by kernel_rfl) (fun _ _ _ h => h) (Gives.not (by rfl)) ?rF5
          (try simp only [Act.put, List.getElem_toArray, List.getElem_cons_zero, List.getElem_cons_succ, List.setIfInBounds_toArray, List.set_cons_zero, List.set_cons_succ])
          refine wpDyn_take undef Sa.stays hSw5 (i := 6) rfl (by kernel_rfl) (by kernel_rfl) (by kernel_rfl) (by kernel_rfl) (by kernel_rfl) (fun _ _ _ h => h) (Gives.not (by rfl)) ?rF6
          (try simp only [Act.put, List.getElem_toArray, List.getElem_cons_zero, List.getElem_cons_succ, List.setIfInBounds_toArray, List.set_cons_zero, List.set_cons_succ])
          refine wpDyn_take undef Sa.stays hSw5 (i := 7) rfl (by kernel_rfl) (by kernel_rfl) (by kernel_rfl) (by kernel_rfl) (by kernel_rfl) (fun _ _ _ h => h) (Gives.not (by rfl)) ?rF7
          (try simp only [Act.put, List.getElem_toArray, List.getElem_cons_zero, List.getElem_cons_succ, List.setIfInBounds_toArray, List.set_cons_zero, List.set_cons_succ])
          refine wpDyn_take undef Sa.stays hSw5 (i := 9) rfl (by kernel_rfl) (by kernel_rfl) (by kernel_rfl) (by kernel_rfl) (by kernel_rfl) (fun _ _ _ h => h) (Gives.not (by rfl)) ?rF9
          (try simp only [Act.put, List.getElem_toArray, List.getElem_cons_zero, List.getElem_cons_succ, List.setIfInBounds_toArray, List.set_cons_zero, List.set_cons_succ])
          refine wpDyn_take undef Sa.stays hSw5 (i := 10) rfl (by kernel_rfl) (by kernel_rfl) (by kernel_rfl) (by kernel_rfl) (by kernel_rfl) (fun _ _ _ h => h) (Gives.not (by rfl)) ?rF10
          (try simp only [Act.put, List.getElem_toArray, List.getElem_cons_zero, List.getElem_cons_succ, List.setIfInBounds_toArray, List.set_cons_zero, List.set_cons_succ])
          refine wpDyn_take undef Sa.stays hSw5 (i := 11) rfl (by kernel_rfl) (by kernel_rfl) (by kernel_rfl) (by kernel_rfl) (by kernel_rfl) (fun _ _ _ h => h) (Gives.not (by rfl)) ?rF11
          (try simp only [Act.put, List.getElem_toArray, List.getElem_cons_zero, List.getElem_cons_succ, List.setIfInBounds_toArray, List.set_cons_zero, List.set_cons_succ])
          refine wpDyn_ready (rs := [8]) (by kernel_rfl) (by simp) (AllDyn.cons rfl (fun V hV K hK => ?_) AllDyn.nil)
          rw [if_neg (by rw [show Region.wanted _ _ = false from by rfl]; decide)]
          refine hK.out (Sa w3 L L2 g gt gc gu oa ob jj m1 t1 wr.heap.size x.op x.bq x.bl x.bc) _ _ Sa.stays (fun _ => hSw5) hV ?_
          clear hK K hV
          (try simp only [Act.put, List.getElem_toArray, List.getElem_cons_zero, List.getElem_cons_succ, List.setIfInBounds_toArray, List.set_cons_zero, List.set_cons_succ])
          refine wpDyn_ready (rs := [12]) (by kernel_rfl) (by simp) (AllDyn.cons rfl (fun V hV K hK => ?_) AllDyn.nil)
          rw [if_neg (by rw [show Region.wanted _ _ = false from by rfl]; decide)]
          refine hK.out (Sa w3 L L2 g gt gc gu oa ob jj m1 t1 wr.heap.size x.op x.bq x.bl x.bc) _ _ Sa.stays (fun _ => hSw5) hV ?_
          clear hK K hV
          (try simp only [Act.put, List.getElem_toArray, List.getElem_cons_zero, List.getElem_cons_succ, List.setIfInBounds_toArray, List.set_cons_zero, List.set_cons_succ])
          refine wpDyn_ready (rs := [13]) (by kernel_rfl) (by simp) (AllDyn.cons rfl (fun V hV K hK => ?_) AllDyn.nil)
          rw [if_neg (by rw [show Region.wanted _ _ = false from by rfl]; decide)]
          refine hK.out (Sa w3 L L2 g gt gc gu oa ob jj m1 t1 wr.heap.size x.op x.bq x.bl x.bc) _ _ Sa.stays (fun _ => hSw5) hV ?_
          clear hK K hV
          (try simp only [Act.put, List.getElem_toArray, List.getElem_cons_zero, List.getElem_cons_succ, List.setIfInBounds_toArray, List.set_cons_zero, List.set_cons_succ])
          refine wpDyn_ready (rs := [14]) (by kernel_rfl) (by simp) (AllDyn.cons rfl (fun V hV K hK => ?_) AllDyn.nil)
          rw [if_pos (by rfl)]
          refine wp_value (.bool false) V (by first | (go_simp; done) | (go_simp; rfl)) ?_
          refine hK.out (Sa w3 L L2 g gt gc gu oa ob jj m1 t1 wr.heap.size x.op x.bq x.bl x.bc) _ _ Sa.stays (fun _ => hSw5) hV ?_
          clear hK K hV
          (try simp only [Act.put, List.getElem_toArray, List.getElem_cons_zero, List.getElem_cons_succ, List.setIfInBounds_toArray, List.set_cons_zero, List.set_cons_succ])
          refine wpDyn_done (by kernel_rfl) (fun W2 hW2 => ?_) _
          clear hSw5 hS5
          have hn60 := HN.out
          go_wp2_with fail
          go_roundw
          case rel =>
            exact ⟨kk + 1, jj, oa, ob, m1, t1, by omega, by omega, by go_num, hW2.2⟩
          case measure => simp [intOf]; omega
        | true =>
          refine wpDyn_take ?vT4 Sa.stays hSw5 (i := 4) rfl (by kernel_rfl) (by kernel_rfl) (by kernel_rfl) (by kernel_rfl) (by kernel_rfl) (fun _ _ _ h => h) (Gives.value (by rfl) ?yT4) ?rT4
          case yT4 => (intro w' hSw; (try dsimp only at hSw); go_simp; try with_reducible rfl)
          (try simp only [Act.put, List.getElem_toArray, List.getElem_cons_zero, List.getElem_cons_succ, List.setIfInBounds_toArray, List.set_cons_zero, List.set_cons_succ])
          refine wpDyn_take ?vT5 Sa.stays hSw5 (i := 5) rfl (by kernel_rfl) (by kernel_rfl) (by kernel_rfl) (by kernel_rfl) (by kernel_rfl) (fun _ _ _ h => h) (Gives.value (by rfl) ?yT5) ?rT5
          case yT5 => (intro w' hSw; (try dsimp only at hSw); go_simp; try with_reducible rfl)
          (try simp only [Act.put, List.getElem_toArray, List.getElem_cons_zero, List.getElem_cons_succ, List.setIfInBounds_toArray, List.set_cons_zero, List.set_cons_succ])
          refine wpDyn_take ?vT6 Sa.stays hSw5 (i := 6) rfl (by kernel_rfl) (by kernel_rfl) (by kernel_rfl) (by kernel_rfl) (by kernel_rfl) (fun _ _ _ h => h) (Gives.value (by rfl) ?yT6) ?rT6
          case yT6 => (intro w' hSw; (try dsimp only at hSw); go_simp; try with_reducible rfl)
          (try simp only [Act.put, List.getElem_toArray, List.getElem_cons_zero, List.getElem_cons_succ, List.setIfInBounds_toArray, List.set_cons_zero, List.set_cons_succ])
          refine wpDyn_take ?vT7 Sa.stays hSw5 (i := 7) rfl (by kernel_rfl) (by kernel_rfl) (by kernel_rfl) (by kernel_rfl) (by kernel_rfl) (fun _ _ _ h => h) (Gives.value (by rfl) ?yT7) ?rT7
          case yT7 => (intro w' hSw; have hz0 := hSw.2; (try dsimp only at hSw); go_simp; try with_reducible rfl)
          (try simp only [Act.put, List.getElem_toArray, List.getElem_cons_zero, List.getElem_cons_succ, List.setIfInBounds_toArray, List.set_cons_zero, List.set_cons_succ])
          refine wpDyn_take ?vT9 Sa.stays hSw5 (i := 9) rfl (by kernel_rfl) (by kernel_rfl) (by kernel_rfl) (by kernel_rfl) (by kernel_rfl) (fun _ _ _ h => h) (Gives.value (by rfl) ?yT9) ?rT9
          case yT9 => (intro w' hSw; (try dsimp only at hSw); go_simp; try with_reducible rfl)
          (try simp only [Act.put, List.getElem_toArray, List.getElem_cons_zero, List.getElem_cons_succ, List.setIfInBounds_toArray, List.set_cons_zero, List.set_cons_succ])
          refine wpDyn_take ?vT10 Sa.stays hSw5 (i := 10) rfl (by kernel_rfl) (by kernel_rfl) (by kernel_rfl) (by kernel_rfl) (by kernel_rfl) (fun _ _ _ h => h) (Gives.value (by rfl) ?yT10) ?rT10
          case yT10 => (intro w' hSw; (try dsimp only at hSw); go_simp; try with_reducible rfl)
          (try simp only [Act.put, List.getElem_toArray, List.getElem_cons_zero, List.getElem_cons_succ, List.setIfInBounds_toArray, List.set_cons_zero, List.set_cons_succ])
          refine wpDyn_take ?vT11 Sa.stays hSw5 (i := 11) rfl (by kernel_rfl) (by kernel_rfl) (by kernel_rfl) (by kernel_rfl) (by kernel_rfl) (fun _ _ _ h => h) (Gives.value (by rfl) ?yT11) ?rT11
          case yT11 => (intro w' hSw; have hz0 := hSw.2; (try dsimp only at hSw); go_simp; try with_reducible rfl)
          (try simp only [Act.put, List.getElem_toArray, List.getElem_cons_zero, List.getElem_cons_succ, List.setIfInBounds_toArray, List.set_cons_zero, List.set_cons_succ])
          refine wpDyn_ready (rs := [8]) (by kernel_rfl) (by simp) (AllDyn.cons rfl (fun V hV K hK => ?_) AllDyn.nil)
          rw [if_pos (by rfl)]
          have hC := HI.out.put1 hj60 hV x.b (HRD.out.b.below' (by rw [← HH.out]; exact HB3.out.trans ((hV.2.bel).mono HHL.out))) HRD.out.y (fun a ea h0 => Nat.lt_of_lt_of_le (HRD.out.b.ltb a ea h0) HLO.out)
          refine wp_enterX 23 #[.pointer (some ⟨gt, 0, none⟩), .slice x.bq x.bl x.bc] (by first | (go_simp; done) | (go_simp; rfl)) (fun v V' => v = .int .i64 (ptT m1 t1 x.b).1 ∧ (Sb w3 L L2 g gt gc gu ob (ptT m1 t1 x.b).2.1 (ptT m1 t1 x.b).2.2 m1 t1 wr.heap.size x.op x.bq x.bl x.bc) V') (hC.mono fun e V' ⟨h1, h2⟩ => ⟨_, h1, rfl, h2⟩) ?_
          rintro v V1 ⟨rfl, hP⟩
          refine hK.out (Sb w3 L L2 g gt gc gu ob (ptT m1 t1 x.b).2.1 (ptT m1 t1 x.b).2.2 m1 t1 wr.heap.size x.op x.bq x.bl x.bc) _ _ Sb.stays (fun _ W h => ⟨h.1.1, h.1.2⟩) hP ?_
          clear hK K hV hC hP
          (try simp only [Act.put, List.getElem_toArray, List.getElem_cons_zero, List.getElem_cons_succ, List.setIfInBounds_toArray, List.set_cons_zero, List.set_cons_succ])
          refine wpDyn_ready (rs := [12]) (by kernel_rfl) (by simp) (AllDyn.cons rfl (fun V hV K hK => ?_) AllDyn.nil)
          rw [if_pos (by rfl)]
          have hC := HI.out.put2 hj60 x.b hV (HRD.out.b.below' (by rw [← HH.out]; exact HB3.out.trans ((hV.2.2).mono HHL.out))) HRD.out.y (fun a ea h0 => Nat.lt_of_lt_of_le (HRD.out.b.ltb a ea h0) HLO.out)
          refine wp_enterX 23 #[.pointer (some ⟨gu, 0, none⟩), .slice x.bq x.bl x.bc] (by first | (go_simp; done) | (go_simp; rfl)) (fun v V' => v = .int .i64 (ptT m1 t1 x.b).1 ∧ (Sc w3 L L2 g gt gc gu (jj + 1) (ptT m1 t1 x.b).2.1 (ptT m1 t1 x.b).2.2 wr.heap.size x.op x.bq x.bl x.bc) V') (hC.mono fun e V' ⟨h1, h2⟩ => ⟨_, h1, rfl, h2⟩) ?_
          rintro v V1 ⟨rfl, hP⟩
          refine hK.out (Sc w3 L L2 g gt gc gu (jj + 1) (ptT m1 t1 x.b).2.1 (ptT m1 t1 x.b).2.2 wr.heap.size x.op x.bq x.bl x.bc) _ _ Sc.stays (no_leanT (by kernel_rfl)) hP ?_
          clear hK K hV hC hP
          (try simp only [Act.put, List.getElem_toArray, List.getElem_cons_zero, List.getElem_cons_succ, List.setIfInBounds_toArray, List.set_cons_zero, List.set_cons_succ])
          generalize (ptT m1 t1 x.b).1 = cz
          refine wpDyn_ready (rs := [13]) (by kernel_rfl) (by simp) (AllDyn.cons rfl (fun V hV K hK => ?_) AllDyn.nil)
          rw [if_pos (by rfl)]
          refine wp_value (.bool false) V (by first | (go_simp; done) | (go_simp; rfl)) ?_
          refine hK.out (Sc w3 L L2 g gt gc gu (jj + 1) (ptT m1 t1 x.b).2.1 (ptT m1 t1 x.b).2.2 wr.heap.size x.op x.bq x.bl x.bc) _ _ Sc.stays (no_leanT (by kernel_rfl)) hV ?_
          clear hK K hV
          (try simp only [Act.put, List.getElem_toArray, List.getElem_cons_zero, List.getElem_cons_succ, List.setIfInBounds_toArray, List.set_cons_zero, List.set_cons_succ])
          refine wpDyn_ready (rs := [14]) (by kernel_rfl) (by simp) (AllDyn.cons rfl (fun V hV K hK => ?_) AllDyn.nil)
          rw [if_pos (by rfl)]
          refine wp_value (.bool false) V (by first | (go_simp; done) | (go_simp; rfl)) ?_
          refine hK.out (Sc w3 L L2 g gt gc gu (jj + 1) (ptT m1 t1 x.b).2.1 (ptT m1 t1 x.b).2.2 wr.heap.size x.op x.bq x.bl x.bc) _ _ Sc.stays (no_leanT (by kernel_rfl)) hV ?_
          clear hK K hV
          (try simp only [Act.put, List.getElem_toArray, List.getElem_cons_zero, List.getElem_cons_succ, List.setIfInBounds_toArray, List.set_cons_zero, List.set_cons_succ])
          refine wpDyn_done (by kernel_rfl) (fun W2 hW2 => ?_) _
          clear hSw5 hS5
          have hn60 := HN.out
          go_wp2_with fail
          go_roundw
          case rel =>
            obtain ⟨_, oc, od, h6⟩ := hW2
            exact ⟨kk + 1, jj + 1, oc, od, _, _, by omega, by omega, by go_num, h6⟩
          case measure => simp [intOf]; omega
      · have hki : ¬ (kk : Int) < (k : Int) := by omega
        have HJ : Hid (jj ≤ 60) := by have := HN.out; show _ ≤ _; omega
        have HI : Hid (AgI w3 wr L L2 g gt gc gu oa ob jj m1 t1) := hI
        clear hI hkn hkk hjj
        go_wp2_with fail
        obtain ⟨nB, HnB⟩ : ∃ z, Hid (z = t1.r.base.length) := ⟨_, rfl⟩
        obtain ⟨nW, HnW⟩ : ∃ z, Hid (z = t1.r.recs.length) := ⟨_, rfl⟩
        obtain ⟨sB, HSB⟩ : ∃ z, Hid (z = strOfNums t1.r.base) := ⟨_, rfl⟩
        have hS8 : Bl wr wr.drew := (Below.refl _ _).drew
        refine wp_region_dyn [0, 3, 6, 7, 8, 10, 13, 14, 16, 17] (fun _ => True) (Bl wr) (by kernel_rfl) hS8 ?_
        clear hS8
        refine wpDyn_take ?vU0 (Bl.stays wr) (fun _ _ => trivial) (i := 0) rfl (by kernel_rfl) (by kernel_rfl) (by kernel_rfl) (by kernel_rfl) (by kernel_rfl) (fun _ _ _ h => h) (Gives.value (by rfl) ?yU0) ?rU0
        case yU0 => (intro w' hSw; (try dsimp only at hSw); go_simp; try with_reducible rfl)
        (try simp only [Act.put, List.getElem_toArray, List.getElem_cons_zero, List.getElem_cons_succ, List.setIfInBounds_toArray, List.set_cons_zero, List.set_cons_succ])
        refine wpDyn_take ?vU3 (Bl.stays wr) (fun _ _ => trivial) (i := 3) rfl (by kernel_rfl) (by kernel_rfl) (by kernel_rfl) (by kernel_rfl) (by kernel_rfl) (fun _ _ _ h => h) (Gives.value (by rfl) ?yU3) ?rU3
        case yU3 => (intro w' hSw; (try dsimp only at hSw); go_simp; try with_reducible rfl)
        (try simp only [Act.put, List.getElem_toArray, List.getElem_cons_zero, List.getElem_cons_succ, List.setIfInBounds_toArray, List.set_cons_zero, List.set_cons_succ])
        refine wpDyn_ready (rs := [1]) (by kernel_rfl) (by simp) (AllDyn.cons rfl (fun V hV K hK => ?_) AllDyn.nil)
        rw [if_pos (by rfl)]
        have hC := Base_S V L 0 g gt m1 t1 (HI.out.below (Bl.out' hV)).pr.t1.o (by have := HI.out.base; omega)
        rw [← HnB.out] at hC
        refine wp_enterX 30 #[.pointer (some ⟨gt, 0, none⟩)] (by first | (go_simp; done) | (go_simp; rfl)) (fun v V' => ∃ p' c', v = .slice p' nB c' ∧ Rd .u8 V' p' nB c' t1.r.base ∧ Below V.heap.size V V') (hC.mono fun e V' ⟨⟨p', c', h1, h2, _⟩, h3⟩ => ⟨_, h1, p', c', rfl, h2, h3⟩) ?_
        rintro v V1 ⟨p1, c1, rfl, hR, hb⟩
        refine hK.out (fun W => Bl wr W ∧ Rd .u8 W p1 nB c1 t1.r.base) _ _ (fun _ _ h hb => ⟨Bl.stays wr _ _ h.1 hb, h.2.below' hb⟩) (fun _ _ _ => trivial) ⟨Bl.stays wr _ _ hV hb, hR⟩ ?_
        clear hK K hV hC hR hb
        (try simp only [Act.put, List.getElem_toArray, List.getElem_cons_zero, List.getElem_cons_succ, List.setIfInBounds_toArray, List.set_cons_zero, List.set_cons_succ])
        refine wpDyn_ready (rs := [2, 4]) (by kernel_rfl) (by simp) (AllDyn.cons rfl (fun V hV K hK => ?_) (AllDyn.cons rfl (fun V hV K hK => ?_) AllDyn.nil))
        · rw [if_pos (by rfl)]
          have hcv : (convert 22 9 (.slice p1 nB c1)).run Try.prog V = .ok (.string sB) V := by rw [HSB.out]; exact hV.2.str
          refine wp_value (.string sB) V (by first | (go_simp; done) | (go_simp; rfl)) ?_
          refine hK.out (Bl wr) _ _ (Bl.stays wr) (fun _ _ _ => trivial) hV.1 ?_
          clear hcv hK K hV
          (try simp only [Act.put, List.getElem_toArray, List.getElem_cons_zero, List.getElem_cons_succ, List.setIfInBounds_toArray, List.set_cons_zero, List.set_cons_succ])
          refine wpDyn_ready (rs := [4]) (by kernel_rfl) (by simp) (AllDyn.cons rfl (fun V hV K hK => ?_) AllDyn.nil)
          rw [if_pos (by rfl)]
          have hC := Base_S V L2 1 gc gu m1 t1 (HI.out.below (Bl.out' hV)).pr.t2.o (by have := HI.out.base; omega)
          rw [← HnB.out] at hC
          refine wp_enterX 30 #[.pointer (some ⟨gu, 0, none⟩)] (by first | (go_simp; done) | (go_simp; rfl)) (fun v V' => ∃ p' c', v = .slice p' nB c' ∧ Rd .u8 V' p' nB c' t1.r.base ∧ Below V.heap.size V V') (hC.mono fun e V' ⟨⟨p', c', h1, h2, _⟩, h3⟩ => ⟨_, h1, p', c', rfl, h2, h3⟩) ?_
          rintro v V1 ⟨p2, c2, rfl, hR, hb⟩
          refine hK.out (fun W => Bl wr W ∧ Rd .u8 W p2 nB c2 t1.r.base) _ _ (fun _ _ h hb => ⟨Bl.stays wr _ _ h.1 hb, h.2.below' hb⟩) (fun _ _ _ => trivial) ⟨Bl.stays wr _ _ hV hb, hR⟩ ?_
          clear hK K hV hC hR hb
          (try simp only [Act.put, List.getElem_toArray, List.getElem_cons_zero, List.getElem_cons_succ, List.setIfInBounds_toArray, List.set_cons_zero, List.set_cons_succ])
          refine wpDyn_ready (rs := [5]) (by kernel_rfl) (by simp) (AllDyn.cons rfl (fun V hV K hK => ?_) AllDyn.nil)
          rw [if_pos (by rfl)]
          have hcv : (convert 22 9 (.slice p2 nB c2)).run Try.prog V = .ok (.string sB) V := by rw [HSB.out]; exact hV.2.str
          refine wp_value (.string sB) V (by first | (go_simp; done) | (go_simp; rfl)) ?_
          refine hK.out (Bl wr) _ _ (Bl.stays wr) (fun _ _ _ => trivial) hV.1 ?_
          clear hcv hK K hV
          (try simp only [Act.put, List.getElem_toArray, List.getElem_cons_zero, List.getElem_cons_succ, List.setIfInBounds_toArray, List.set_cons_zero, List.set_cons_succ])
          refine wpDyn_take ?vA6 (Bl.stays wr) (fun _ _ => trivial) (i := 6) rfl (by kernel_rfl) (by kernel_rfl) (by kernel_rfl) (by kernel_rfl) (by kernel_rfl) (fun _ _ _ h => h) (Gives.value (by rfl) ?yA6) ?rA6
          case yA6 => (intro w' hSw; (try dsimp only at hSw); go_simp; try with_reducible rfl)
          (try simp only [Act.put, List.getElem_toArray, List.getElem_cons_zero, List.getElem_cons_succ, List.setIfInBounds_toArray, List.set_cons_zero, List.set_cons_succ])
          refine wpDyn_take ?vA7 (Bl.stays wr) (fun _ _ => trivial) (i := 7) rfl (by kernel_rfl) (by kernel_rfl) (by kernel_rfl) (by kernel_rfl) (by kernel_rfl) (fun _ _ _ h => h) (Gives.value (by rfl) ?yA7) ?rA7
          case yA7 => (intro w' hSw; (try dsimp only at hSw); go_simp; try with_reducible rfl)
          (try simp only [Act.put, List.getElem_toArray, List.getElem_cons_zero, List.getElem_cons_succ, List.setIfInBounds_toArray, List.set_cons_zero, List.set_cons_succ])
          refine wpDyn_take ?vA8 (Bl.stays wr) (fun _ _ => trivial) (i := 8) rfl (by kernel_rfl) (by kernel_rfl) (by kernel_rfl) (by kernel_rfl) (by kernel_rfl) (fun _ _ _ h => h) (Gives.value (by rfl) ?yA8) ?rA8
          case yA8 => (intro w' hSw; (try dsimp only at hSw); go_simp; try with_reducible rfl)
          (try simp only [Act.put, List.getElem_toArray, List.getElem_cons_zero, List.getElem_cons_succ, List.setIfInBounds_toArray, List.set_cons_zero, List.set_cons_succ])
          refine wpDyn_take ?vA10 (Bl.stays wr) (fun _ _ => trivial) (i := 10) rfl (by kernel_rfl) (by kernel_rfl) (by kernel_rfl) (by kernel_rfl) (by kernel_rfl) (fun _ _ _ h => h) (Gives.value (by rfl) ?yA10) ?rA10
          case yA10 => (intro w' hSw; (try dsimp only at hSw); go_simp; try with_reducible rfl)
          (try simp only [Act.put, List.getElem_toArray, List.getElem_cons_zero, List.getElem_cons_succ, List.setIfInBounds_toArray, List.set_cons_zero, List.set_cons_succ])
          refine wpDyn_ready (rs := [9]) (by kernel_rfl) (by simp) (AllDyn.cons rfl (fun V hV K hK => ?_) AllDyn.nil)
          rw [if_pos (by rfl)]
          have hC := Recs_S V L 0 g gt m1 t1 (HI.out.below (Bl.out' hV)).pr.t1.o (by have := HI.out.few; have := HJ.out; omega) (fun d hd => by have := HI.out.recs d hd; omega)
          rw [← HnW.out, strs_txb] at hC
          refine wp_enterX 31 #[.pointer (some ⟨gt, 0, none⟩)] (by first | (go_simp; done) | (go_simp; rfl)) (fun v V' => ∃ p' c', v = .slice p' nW c' ∧ RdV V' p' nW c' (txt (txb t1.r.recs)) ∧ Below V.heap.size V V') (hC.mono fun e V' ⟨⟨p', c', h1, h2, _⟩, h3⟩ => ⟨_, h1, p', c', rfl, h2, h3⟩) ?_
          rintro v V1 ⟨pw, cw, rfl, hR, hb⟩
          refine hK.out (fun W => Bl wr W ∧ RdV W pw nW cw (txt (txb t1.r.recs))) _ _ (fun _ _ h hb => ⟨Bl.stays wr _ _ h.1 hb, h.2.below hb⟩) (fun _ _ _ => trivial) ⟨Bl.stays wr _ _ hV hb, hR⟩ ?_
          clear hK K hV hC hR hb
          (try simp only [Act.put, List.getElem_toArray, List.getElem_cons_zero, List.getElem_cons_succ, List.setIfInBounds_toArray, List.set_cons_zero, List.set_cons_succ])
          refine wpDyn_ready (rs := [11]) (by kernel_rfl) (by simp) (AllDyn.cons rfl (fun V hV K hK => ?_) AllDyn.nil)
          rw [if_pos (by rfl)]
          have hC := Recs_S V L2 1 gc gu m1 t1 (HI.out.below (Bl.out' hV.1)).pr.t2.o (by have := HI.out.few; have := HJ.out; omega) (fun d hd => by have := HI.out.recs d hd; omega)
          rw [← HnW.out, strs_txb] at hC
          refine wp_enterX 31 #[.pointer (some ⟨gu, 0, none⟩)] (by first | (go_simp; done) | (go_simp; rfl)) (fun v V' => ∃ p' c', v = .slice p' nW c' ∧ RdV V' p' nW c' (txt (txb t1.r.recs)) ∧ Below V.heap.size V V') (hC.mono fun e V' ⟨⟨p', c', h1, h2, _⟩, h3⟩ => ⟨_, h1, p', c', rfl, h2, h3⟩) ?_
          rintro v V1 ⟨pv, cv, rfl, hR, hb⟩
          refine hK.out (fun W => Bl wr W ∧ RdV W pw nW cw (txt (txb t1.r.recs)) ∧ RdV W pv nW cv (txt (txb t1.r.recs))) _ _ (fun _ _ h hb => ⟨Bl.stays wr _ _ h.1 hb, h.2.1.below hb, h.2.2.below hb⟩) (fun _ _ _ => trivial) ⟨Bl.stays wr _ _ hV.1 hb, hV.2.below hb, hR⟩ ?_
          clear hK K hV hC hR hb
          (try simp only [Act.put, List.getElem_toArray, List.getElem_cons_zero, List.getElem_cons_succ, List.setIfInBounds_toArray, List.set_cons_zero, List.set_cons_succ])
          refine wpDyn_ready (rs := [12]) (by kernel_rfl) (by simp) (AllDyn.cons rfl (fun V hV K hK => ?_) AllDyn.nil)
          rw [if_pos (by rfl)]
          have hC := eqStr_any pw pv nW cw nW cv (txb t1.r.recs) (txb t1.r.recs) V hV.2.1 hV.2.2 (by rw [HnW.out]; have := HI.out.few; have := HJ.out; omega) (by rw [HnW.out]; have := HI.out.few; have := HJ.out; omega)
          rw [sameT_yes rfl] at hC
          refine wp_enterX 26 #[.slice pw nW cw, .slice pv nW cv] (by first | (go_simp; done) | (go_simp; rfl)) (fun v V' => v = .bool true ∧ Below V.heap.size V V') (hC.mono fun e V' ⟨h1, h2⟩ => ⟨_, h1, rfl, h2⟩) ?_
          rintro v V1 ⟨rfl, hb⟩
          refine hK.out (Bl wr) _ _ (Bl.stays wr) (fun _ _ _ => trivial) (Bl.stays wr _ _ hV.1 hb) ?_
          clear hK K hV hC hb
          (try simp only [Act.put, List.getElem_toArray, List.getElem_cons_zero, List.getElem_cons_succ, List.setIfInBounds_toArray, List.set_cons_zero, List.set_cons_succ])
          refine wpDyn_take ?vA13 (Bl.stays wr) (fun _ _ => trivial) (i := 13) rfl (by kernel_rfl) (by kernel_rfl) (by kernel_rfl) (by kernel_rfl) (by kernel_rfl) (fun _ _ _ h => h) (Gives.value (by rfl) ?yA13) ?rA13
          case yA13 => (intro w' hSw; (try dsimp only at hSw); go_simp; try with_reducible rfl)
          (try simp only [Act.put, List.getElem_toArray, List.getElem_cons_zero, List.getElem_cons_succ, List.setIfInBounds_toArray, List.set_cons_zero, List.set_cons_succ])
          refine wpDyn_take ?vA14 (Bl.stays wr) (fun _ _ => trivial) (i := 14) rfl (by kernel_rfl) (by kernel_rfl) (by kernel_rfl) (by kernel_rfl) (by kernel_rfl) (fun _ _ _ h => h) (Gives.value (by rfl) ?yA14) ?rA14
          case yA14 => (intro w' hSw; (try dsimp only at hSw); go_simp; try with_reducible rfl)
          (try simp only [Act.put, List.getElem_toArray, List.getElem_cons_zero, List.getElem_cons_succ, List.setIfInBounds_toArray, List.set_cons_zero, List.set_cons_succ])
          refine wpDyn_ready (rs := [15]) (by kernel_rfl) (by simp) (AllDyn.cons rfl (fun V hV K hK => ?_) AllDyn.nil)
          rw [if_pos (by rfl)]
          have hC := awake_any V
          refine wp_enterX 8 #[] (by first | (go_simp; done) | (go_simp; rfl)) (fun v V' => v = .bool true ∧ Below V.heap.size V V') (hC.mono fun e V' ⟨h1, h2⟩ => ⟨_, h1, rfl, h2⟩) ?_
          rintro v V1 ⟨rfl, hb⟩
          refine hK.out (Bl wr) _ _ (Bl.stays wr) (fun _ _ _ => trivial) (Bl.stays wr _ _ hV hb) ?_
          clear hK K hV hC hb
          (try simp only [Act.put, List.getElem_toArray, List.getElem_cons_zero, List.getElem_cons_succ, List.setIfInBounds_toArray, List.set_cons_zero, List.set_cons_succ])
          refine wpDyn_take ?vA16 (Bl.stays wr) (fun _ _ => trivial) (i := 16) rfl (by kernel_rfl) (by kernel_rfl) (by kernel_rfl) (by kernel_rfl) (by kernel_rfl) (fun _ _ _ h => h) (Gives.value (by rfl) ?yA16) ?rA16
          case yA16 => (intro w' hSw; (try dsimp only at hSw); go_simp; try with_reducible rfl)
          (try simp only [Act.put, List.getElem_toArray, List.getElem_cons_zero, List.getElem_cons_succ, List.setIfInBounds_toArray, List.set_cons_zero, List.set_cons_succ])
          refine wpDyn_take ?vA17 (Bl.stays wr) (fun _ _ => trivial) (i := 17) rfl (by kernel_rfl) (by kernel_rfl) (by kernel_rfl) (by kernel_rfl) (by kernel_rfl) (fun _ _ _ h => h) (Gives.value (by rfl) ?yA17) ?rA17
          case yA17 => (intro w' hSw; (try dsimp only at hSw); go_simp; try with_reducible rfl)
          (try simp only [Act.put, List.getElem_toArray, List.getElem_cons_zero, List.getElem_cons_succ, List.setIfInBounds_toArray, List.set_cons_zero, List.set_cons_succ])
          refine wpDyn_done (by kernel_rfl) (fun W2 hW2 => ?_) _
          have HB99 : Hid (Below H w W2) := HB3.out.trans ((HI.out.below (Bl.out' hW2)).bel.mono HHL.out)
          clear hW2
          go_wp2_with fail
          go_ret
          exact ⟨rfl, by have h := HB99.out; rw [HH.out] at h; exact h⟩
        · rw [if_pos (by rfl)]
          have hC := Base_S V L2 1 gc gu m1 t1 (HI.out.below (Bl.out' hV.1)).pr.t2.o (by have := HI.out.base; omega)
          rw [← HnB.out] at hC
          refine wp_enterX 30 #[.pointer (some ⟨gu, 0, none⟩)] (by first | (go_simp; done) | (go_simp; rfl)) (fun v V' => ∃ p' c', v = .slice p' nB c' ∧ Rd .u8 V' p' nB c' t1.r.base ∧ Below V.heap.size V V') (hC.mono fun e V' ⟨⟨p', c', h1, h2, _⟩, h3⟩ => ⟨_, h1, p', c', rfl, h2, h3⟩) ?_
          rintro v V1 ⟨p2, c2, rfl, hR, hb⟩
          refine hK.out (fun W => Bl wr W ∧ Rd .u8 W p1 nB c1 t1.r.base ∧ Rd .u8 W p2 nB c2 t1.r.base) _ _ (fun _ _ h hb => ⟨Bl.stays wr _ _ h.1 hb, h.2.1.below' hb, h.2.2.below' hb⟩) (fun _ _ _ => trivial) ⟨Bl.stays wr _ _ hV.1 hb, hV.2.below' hb, hR⟩ ?_
          clear hK K hV hC hR hb
          (try simp only [Act.put, List.getElem_toArray, List.getElem_cons_zero, List.getElem_cons_succ, List.setIfInBounds_toArray, List.set_cons_zero, List.set_cons_succ])
          refine wpDyn_ready (rs := [2, 5]) (by kernel_rfl) (by simp) (AllDyn.cons rfl (fun V hV K hK => ?_) (AllDyn.cons rfl (fun V hV K hK => ?_) AllDyn.nil))
          · rw [if_pos (by rfl)]
            have hcv : (convert 22 9 (.slice p1 nB c1)).run Try.prog V = .ok (.string sB) V := by rw [HSB.out]; exact hV.2.1.str
            refine wp_value (.string sB) V (by first | (go_simp; done) | (go_simp; rfl)) ?_
            refine hK.out (fun W => Bl wr W ∧ Rd .u8 W p2 nB c2 t1.r.base) _ _ (fun _ _ h hb => ⟨Bl.stays wr _ _ h.1 hb, h.2.below' hb⟩) (fun _ _ _ => trivial) ⟨hV.1, hV.2.2⟩ ?_
            clear hcv hK K hV
            (try simp only [Act.put, List.getElem_toArray, List.getElem_cons_zero, List.getElem_cons_succ, List.setIfInBounds_toArray, List.set_cons_zero, List.set_cons_succ])
            refine wpDyn_ready (rs := [5]) (by kernel_rfl) (by simp) (AllDyn.cons rfl (fun V hV K hK => ?_) AllDyn.nil)
            rw [if_pos (by rfl)]
            have hcv : (convert 22 9 (.slice p2 nB c2)).run Try.prog V = .ok (.string sB) V := by rw [HSB.out]; exact hV.2.str
            refine wp_value (.string sB) V (by first | (go_simp; done) | (go_simp; rfl)) ?_
            refine hK.out (Bl wr) _ _ (Bl.stays wr) (fun _ _ _ => trivial) hV.1 ?_
            clear hcv hK K hV
            (try simp only [Act.put, List.getElem_toArray, List.getElem_cons_zero, List.getElem_cons_succ, List.setIfInBounds_toArray, List.set_cons_zero, List.set_cons_succ])
            refine wpDyn_take ?vB6 (Bl.stays wr) (fun _ _ => trivial) (i := 6) rfl (by kernel_rfl) (by kernel_rfl) (by kernel_rfl) (by kernel_rfl) (by kernel_rfl) (fun _ _ _ h => h) (Gives.value (by rfl) ?yB6) ?rB6
            case yB6 => (intro w' hSw; (try dsimp only at hSw); go_simp; try with_reducible rfl)
            (try simp only [Act.put, List.getElem_toArray, List.getElem_cons_zero, List.getElem_cons_succ, List.setIfInBounds_toArray, List.set_cons_zero, List.set_cons_succ])
            refine wpDyn_take ?vB7 (Bl.stays wr) (fun _ _ => trivial) (i := 7) rfl (by kernel_rfl) (by kernel_rfl) (by kernel_rfl) (by kernel_rfl) (by kernel_rfl) (fun _ _ _ h => h) (Gives.value (by rfl) ?yB7) ?rB7
            case yB7 => (intro w' hSw; (try dsimp only at hSw); go_simp; try with_reducible rfl)
            (try simp only [Act.put, List.getElem_toArray, List.getElem_cons_zero, List.getElem_cons_succ, List.setIfInBounds_toArray, List.set_cons_zero, List.set_cons_succ])
            refine wpDyn_take ?vB8 (Bl.stays wr) (fun _ _ => trivial) (i := 8) rfl (by kernel_rfl) (by kernel_rfl) (by kernel_rfl) (by kernel_rfl) (by kernel_rfl) (fun _ _ _ h => h) (Gives.value (by rfl) ?yB8) ?rB8
            case yB8 => (intro w' hSw; (try dsimp only at hSw); go_simp; try with_reducible rfl)
            (try simp only [Act.put, List.getElem_toArray, List.getElem_cons_zero, List.getElem_cons_succ, List.setIfInBounds_toArray, List.set_cons_zero, List.set_cons_succ])
            refine wpDyn_take ?vB10 (Bl.stays wr) (fun _ _ => trivial) (i := 10) rfl (by kernel_rfl) (by kernel_rfl) (by kernel_rfl) (by kernel_rfl) (by kernel_rfl) (fun _ _ _ h => h) (Gives.value (by rfl) ?yB10) ?rB10
            case yB10 => (intro w' hSw; (try dsimp only at hSw); go_simp; try with_reducible rfl)
            (try simp only [Act.put, List.getElem_toArray, List.getElem_cons_zero, List.getElem_cons_succ, List.setIfInBounds_toArray, List.set_cons_zero, List.set_cons_succ])
            refine wpDyn_ready (rs := [9]) (by kernel_rfl) (by simp) (AllDyn.cons rfl (fun V hV K hK => ?_) AllDyn.nil)
            rw [if_pos (by rfl)]
            have hC := Recs_S V L 0 g gt m1 t1 (HI.out.below (Bl.out' hV)).pr.t1.o (by have := HI.out.few; have := HJ.out; omega) (fun d hd => by have := HI.out.recs d hd; omega)
            rw [← HnW.out, strs_txb] at hC
            refine wp_enterX 31 #[.pointer (some ⟨gt, 0, none⟩)] (by first | (go_simp; done) | (go_simp; rfl)) (fun v V' => ∃ p' c', v = .slice p' nW c' ∧ RdV V' p' nW c' (txt (txb t1.r.recs)) ∧ Below V.heap.size V V') (hC.mono fun e V' ⟨⟨p', c', h1, h2, _⟩, h3⟩ => ⟨_, h1, p', c', rfl, h2, h3⟩) ?_
            rintro v V1 ⟨pw, cw, rfl, hR, hb⟩
            refine hK.out (fun W => Bl wr W ∧ RdV W pw nW cw (txt (txb t1.r.recs))) _ _ (fun _ _ h hb => ⟨Bl.stays wr _ _ h.1 hb, h.2.below hb⟩) (fun _ _ _ => trivial) ⟨Bl.stays wr _ _ hV hb, hR⟩ ?_
            clear hK K hV hC hR hb
            (try simp only [Act.put, List.getElem_toArray, List.getElem_cons_zero, List.getElem_cons_succ, List.setIfInBounds_toArray, List.set_cons_zero, List.set_cons_succ])
            refine wpDyn_ready (rs := [11]) (by kernel_rfl) (by simp) (AllDyn.cons rfl (fun V hV K hK => ?_) AllDyn.nil)
            rw [if_pos (by rfl)]
            have hC := Recs_S V L2 1 gc gu m1 t1 (HI.out.below (Bl.out' hV.1)).pr.t2.o (by have := HI.out.few; have := HJ.out; omega) (fun d hd => by have := HI.out.recs d hd; omega)
            rw [← HnW.out, strs_txb] at hC
            refine wp_enterX 31 #[.pointer (some ⟨gu, 0, none⟩)] (by first | (go_simp; done) | (go_simp; rfl)) (fun v V' => ∃ p' c', v = .slice p' nW c' ∧ RdV V' p' nW c' (txt (txb t1.r.recs)) ∧ Below V.heap.size V V') (hC.mono fun e V' ⟨⟨p', c', h1, h2, _⟩, h3⟩ => ⟨_, h1, p', c', rfl, h2, h3⟩) ?_
            rintro v V1 ⟨pv, cv, rfl, hR, hb⟩
            refine hK.out (fun W => Bl wr W ∧ RdV W pw nW cw (txt (txb t1.r.recs)) ∧ RdV W pv nW cv (txt (txb t1.r.recs))) _ _ (fun _ _ h hb => ⟨Bl.stays wr _ _ h.1 hb, h.2.1.below hb, h.2.2.below hb⟩) (fun _ _ _ => trivial) ⟨Bl.stays wr _ _ hV.1 hb, hV.2.below hb, hR⟩ ?_
            clear hK K hV hC hR hb
            (try simp only [Act.put, List.getElem_toArray, List.getElem_cons_zero, List.getElem_cons_succ, List.setIfInBounds_toArray, List.set_cons_zero, List.set_cons_succ])
            refine wpDyn_ready (rs := [12]) (by kernel_rfl) (by simp) (AllDyn.cons rfl (fun V hV K hK => ?_) AllDyn.nil)
            rw [if_pos (by rfl)]
            have hC := eqStr_any pw pv nW cw nW cv (txb t1.r.recs) (txb t1.r.recs) V hV.2.1 hV.2.2 (by rw [HnW.out]; have := HI.out.few; have := HJ.out; omega) (by rw [HnW.out]; have := HI.out.few; have := HJ.out; omega)
            rw [sameT_yes rfl] at hC
            refine wp_enterX 26 #[.slice pw nW cw, .slice pv nW cv] (by first | (go_simp; done) | (go_simp; rfl)) (fun v V' => v = .bool true ∧ Below V.heap.size V V') (hC.mono fun e V' ⟨h1, h2⟩ => ⟨_, h1, rfl, h2⟩) ?_
            rintro v V1 ⟨rfl, hb⟩
            refine hK.out (Bl wr) _ _ (Bl.stays wr) (fun _ _ _ => trivial) (Bl.stays wr _ _ hV.1 hb) ?_
            clear hK K hV hC hb
            (try simp only [Act.put, List.getElem_toArray, List.getElem_cons_zero, List.getElem_cons_succ, List.setIfInBounds_toArray, List.set_cons_zero, List.set_cons_succ])
            refine wpDyn_take ?vB13 (Bl.stays wr) (fun _ _ => trivial) (i := 13) rfl (by kernel_rfl) (by kernel_rfl) (by kernel_rfl) (by kernel_rfl) (by kernel_rfl) (fun _ _ _ h => h) (Gives.value (by rfl) ?yB13) ?rB13
            case yB13 => (intro w' hSw; (try dsimp only at hSw); go_simp; try with_reducible rfl)
            (try simp only [Act.put, List.getElem_toArray, List.getElem_cons_zero, List.getElem_cons_succ, List.setIfInBounds_toArray, List.set_cons_zero, List.set_cons_succ])
            refine wpDyn_take ?vB14 (Bl.stays wr) (fun _ _ => trivial) (i := 14) rfl (by kernel_rfl) (by kernel_rfl) (by kernel_rfl) (by kernel_rfl) (by kernel_rfl) (fun _ _ _ h => h) (Gives.value (by rfl) ?yB14) ?rB14
            case yB14 => (intro w' hSw; (try dsimp only at hSw); go_simp; try with_reducible rfl)
            (try simp only [Act.put, List.getElem_toArray, List.getElem_cons_zero, List.getElem_cons_succ, List.setIfInBounds_toArray, List.set_cons_zero, List.set_cons_succ])
            refine wpDyn_ready (rs := [15]) (by kernel_rfl) (by simp) (AllDyn.cons rfl (fun V hV K hK => ?_) AllDyn.nil)
            rw [if_pos (by rfl)]
            have hC := awake_any V
            refine wp_enterX 8 #[] (by first | (go_simp; done) | (go_simp; rfl)) (fun v V' => v = .bool true ∧ Below V.heap.size V V') (hC.mono fun e V' ⟨h1, h2⟩ => ⟨_, h1, rfl, h2⟩) ?_
            rintro v V1 ⟨rfl, hb⟩
            refine hK.out (Bl wr) _ _ (Bl.stays wr) (fun _ _ _ => trivial) (Bl.stays wr _ _ hV hb) ?_
            clear hK K hV hC hb
            (try simp only [Act.put, List.getElem_toArray, List.getElem_cons_zero, List.getElem_cons_succ, List.setIfInBounds_toArray, List.set_cons_zero, List.set_cons_succ])
            refine wpDyn_take ?vB16 (Bl.stays wr) (fun _ _ => trivial) (i := 16) rfl (by kernel_rfl) (by kernel_rfl) (by kernel_rfl) (by kernel_rfl) (by kernel_rfl) (fun _ _ _ h => h) (Gives.value (by rfl) ?yB16) ?rB16
            case yB16 => (intro w' hSw; (try dsimp only at hSw); go_simp; try with_reducible rfl)
            (try simp only [Act.put, List.getElem_toArray, List.getElem_cons_zero, List.getElem_cons_succ, List.setIfInBounds_toArray, List.set_cons_zero, List.set_cons_succ])
            refine wpDyn_take ?vB17 (Bl.stays wr) (fun _ _ => trivial) (i := 17) rfl (by kernel_rfl) (by kernel_rfl) (by kernel_rfl) (by kernel_rfl) (by kernel_rfl) (fun _ _ _ h => h) (Gives.value (by rfl) ?yB17) ?rB17
            case yB17 => (intro w' hSw; (try dsimp only at hSw); go_simp; try with_reducible rfl)
            (try simp only [Act.put, List.getElem_toArray, List.getElem_cons_zero, List.getElem_cons_succ, List.setIfInBounds_toArray, List.set_cons_zero, List.set_cons_succ])
            refine wpDyn_done (by kernel_rfl) (fun W2 hW2 => ?_) _
            have HB99 : Hid (Below H w W2) := HB3.out.trans ((HI.out.below (Bl.out' hW2)).bel.mono HHL.out)
            clear hW2
            go_wp2_with fail
            go_ret
            exact ⟨rfl, by have h := HB99.out; rw [HH.out] at h; exact h⟩
          · rw [if_pos (by rfl)]
            have hcv : (convert 22 9 (.slice p2 nB c2)).run Try.prog V = .ok (.string sB) V := by rw [HSB.out]; exact hV.2.2.str
            refine wp_value (.string sB) V (by first | (go_simp; done) | (go_simp; rfl)) ?_
            refine hK.out (fun W => Bl wr W ∧ Rd .u8 W p1 nB c1 t1.r.base) _ _ (fun _ _ h hb => ⟨Bl.stays wr _ _ h.1 hb, h.2.below' hb⟩) (fun _ _ _ => trivial) ⟨hV.1, hV.2.1⟩ ?_
            clear hcv hK K hV
            (try simp only [Act.put, List.getElem_toArray, List.getElem_cons_zero, List.getElem_cons_succ, List.setIfInBounds_toArray, List.set_cons_zero, List.set_cons_succ])
            refine wpDyn_ready (rs := [2]) (by kernel_rfl) (by simp) (AllDyn.cons rfl (fun V hV K hK => ?_) AllDyn.nil)
            rw [if_pos (by rfl)]
            have hcv : (convert 22 9 (.slice p1 nB c1)).run Try.prog V = .ok (.string sB) V := by rw [HSB.out]; exact hV.2.str
            refine wp_value (.string sB) V (by first | (go_simp; done) | (go_simp; rfl)) ?_
            refine hK.out (Bl wr) _ _ (Bl.stays wr) (fun _ _ _ => trivial) hV.1 ?_
            clear hcv hK K hV
            (try simp only [Act.put, List.getElem_toArray, List.getElem_cons_zero, List.getElem_cons_succ, List.setIfInBounds_toArray, List.set_cons_zero, List.set_cons_succ])
            refine wpDyn_take ?vC6 (Bl.stays wr) (fun _ _ => trivial) (i := 6) rfl (by kernel_rfl) (by kernel_rfl) (by kernel_rfl) (by kernel_rfl) (by kernel_rfl) (fun _ _ _ h => h) (Gives.value (by rfl) ?yC6) ?rC6
            case yC6 => (intro w' hSw; (try dsimp only at hSw); go_simp; try with_reducible rfl)
            (try simp only [Act.put, List.getElem_toArray, List.getElem_cons_zero, List.getElem_cons_succ, List.setIfInBounds_toArray, List.set_cons_zero, List.set_cons_succ])
            refine wpDyn_take ?vC7 (Bl.stays wr) (fun _ _ => trivial) (i := 7) rfl (by kernel_rfl) (by kernel_rfl) (by kernel_rfl) (by kernel_rfl) (by kernel_rfl) (fun _ _ _ h => h) (Gives.value (by rfl) ?yC7) ?rC7
            case yC7 => (intro w' hSw; (try dsimp only at hSw); go_simp; try with_reducible rfl)
            (try simp only [Act.put, List.getElem_toArray, List.getElem_cons_zero, List.getElem_cons_succ, List.setIfInBounds_toArray, List.set_cons_zero, List.set_cons_succ])
            refine wpDyn_take ?vC8 (Bl.stays wr) (fun _ _ => trivial) (i := 8) rfl (by kernel_rfl) (by kernel_rfl) (by kernel_rfl) (by kernel_rfl) (by kernel_rfl) (fun _ _ _ h => h) (Gives.value (by rfl) ?yC8) ?rC8
            case yC8 => (intro w' hSw; (try dsimp only at hSw); go_simp; try with_reducible rfl)
            (try simp only [Act.put, List.getElem_toArray, List.getElem_cons_zero, List.getElem_cons_succ, List.setIfInBounds_toArray, List.set_cons_zero, List.set_cons_succ])
            refine wpDyn_take ?vC10 (Bl.stays wr) (fun _ _ => trivial) (i := 10) rfl (by kernel_rfl) (by kernel_rfl) (by kernel_rfl) (by kernel_rfl) (by kernel_rfl) (fun _ _ _ h => h) (Gives.value (by rfl) ?yC10) ?rC10
            case yC10 => (intro w' hSw; (try dsimp only at hSw); go_simp; try with_reducible rfl)
            (try simp only [Act.put, List.getElem_toArray, List.getElem_cons_zero, List.getElem_cons_succ, List.setIfInBounds_toArray, List.set_cons_zero, List.set_cons_succ])
            refine wpDyn_ready (rs := [9]) (by kernel_rfl) (by simp) (AllDyn.cons rfl (fun V hV K hK => ?_) AllDyn.nil)
            rw [if_pos (by rfl)]
            have hC := Recs_S V L 0 g gt m1 t1 (HI.out.below (Bl.out' hV)).pr.t1.o (by have := HI.out.few; have := HJ.out; omega) (fun d hd => by have := HI.out.recs d hd; omega)
            rw [← HnW.out, strs_txb] at hC
            refine wp_enterX 31 #[.pointer (some ⟨gt, 0, none⟩)] (by first | (go_simp; done) | (go_simp; rfl)) (fun v V' => ∃ p' c', v = .slice p' nW c' ∧ RdV V' p' nW c' (txt (txb t1.r.recs)) ∧ Below V.heap.size V V') (hC.mono fun e V' ⟨⟨p', c', h1, h2, _⟩, h3⟩ => ⟨_, h1, p', c', rfl, h2, h3⟩) ?_
            rintro v V1 ⟨pw, cw, rfl, hR, hb⟩
            refine hK.out (fun W => Bl wr W ∧ RdV W pw nW cw (txt (txb t1.r.recs))) _ _ (fun _ _ h hb => ⟨Bl.stays wr _ _ h.1 hb, h.2.below hb⟩) (fun _ _ _ => trivial) ⟨Bl.stays wr _ _ hV hb, hR⟩ ?_
            clear hK K hV hC hR hb
            (try simp only [Act.put, List.getElem_toArray, List.getElem_cons_zero, List.getElem_cons_succ, List.setIfInBounds_toArray, List.set_cons_zero, List.set_cons_succ])
            refine wpDyn_ready (rs := [11]) (by kernel_rfl) (by simp) (AllDyn.cons rfl (fun V hV K hK => ?_) AllDyn.nil)
            rw [if_pos (by rfl)]
            have hC := Recs_S V L2 1 gc gu m1 t1 (HI.out.below (Bl.out' hV.1)).pr.t2.o (by have := HI.out.few; have := HJ.out; omega) (fun d hd => by have := HI.out.recs d hd; omega)
            rw [← HnW.out, strs_txb] at hC
            refine wp_enterX 31 #[.pointer (some ⟨gu, 0, none⟩)] (by first | (go_simp; done) | (go_simp; rfl)) (fun v V' => ∃ p' c', v = .slice p' nW c' ∧ RdV V' p' nW c' (txt (txb t1.r.recs)) ∧ Below V.heap.size V V') (hC.mono fun e V' ⟨⟨p', c', h1, h2, _⟩, h3⟩ => ⟨_, h1, p', c', rfl, h2, h3⟩) ?_
            rintro v V1 ⟨pv, cv, rfl, hR, hb⟩
            refine hK.out (fun W => Bl wr W ∧ RdV W pw nW cw (txt (txb t1.r.recs)) ∧ RdV W pv nW cv (txt (txb t1.r.recs))) _ _ (fun _ _ h hb => ⟨Bl.stays wr _ _ h.1 hb, h.2.1.below hb, h.2.2.below hb⟩) (fun _ _ _ => trivial) ⟨Bl.stays wr _ _ hV.1 hb, hV.2.below hb, hR⟩ ?_
            clear hK K hV hC hR hb
            (try simp only [Act.put, List.getElem_toArray, List.getElem_cons_zero, List.getElem_cons_succ, List.setIfInBounds_toArray, List.set_cons_zero, List.set_cons_succ])
            refine wpDyn_ready (rs := [12]) (by kernel_rfl) (by simp) (AllDyn.cons rfl (fun V hV K hK => ?_) AllDyn.nil)
            rw [if_pos (by rfl)]
            have hC := eqStr_any pw pv nW cw nW cv (txb t1.r.recs) (txb t1.r.recs) V hV.2.1 hV.2.2 (by rw [HnW.out]; have := HI.out.few; have := HJ.out; omega) (by rw [HnW.out]; have := HI.out.few; have := HJ.out; omega)
            rw [sameT_yes rfl] at hC
            refine wp_enterX 26 #[.slice pw nW cw, .slice pv nW cv] (by first | (go_simp; done) | (go_simp; rfl)) (fun v V' => v = .bool true ∧ Below V.heap.size V V') (hC.mono fun e V' ⟨h1, h2⟩ => ⟨_, h1, rfl, h2⟩) ?_
            rintro v V1 ⟨rfl, hb⟩
            refine hK.out (Bl wr) _ _ (Bl.stays wr) (fun _ _ _ => trivial) (Bl.stays wr _ _ hV.1 hb) ?_
            clear hK K hV hC hb
            (try simp only [Act.put, List.getElem_toArray, List.getElem_cons_zero, List.getElem_cons_succ, List.setIfInBounds_toArray, List.set_cons_zero, List.set_cons_succ])
            refine wpDyn_take ?vC13 (Bl.stays wr) (fun _ _ => trivial) (i := 13) rfl (by kernel_rfl) (by kernel_rfl) (by kernel_rfl) (by kernel_rfl) (by kernel_rfl) (fun _ _ _ h => h) (Gives.value (by rfl) ?yC13) ?rC13
            case yC13 => (intro w' hSw; (try dsimp only at hSw); go_simp; try with_reducible rfl)
            (try simp only [Act.put, List.getElem_toArray, List.getElem_cons_zero, List.getElem_cons_succ, List.setIfInBounds_toArray, List.set_cons_zero, List.set_cons_succ])
            refine wpDyn_take ?vC14 (Bl.stays wr) (fun _ _ => trivial) (i := 14) rfl (by kernel_rfl) (by kernel_rfl) (by kernel_rfl) (by kernel_rfl) (by kernel_rfl) (fun _ _ _ h => h) (Gives.value (by rfl) ?yC14) ?rC14
            case yC14 => (intro w' hSw; (try dsimp only at hSw); go_simp; try with_reducible rfl)
            (try simp only [Act.put, List.getElem_toArray, List.getElem_cons_zero, List.getElem_cons_succ, List.setIfInBounds_toArray, List.set_cons_zero, List.set_cons_succ])
            refine wpDyn_ready (rs := [15]) (by kernel_rfl) (by simp) (AllDyn.cons rfl (fun V hV K hK => ?_) AllDyn.nil)
            rw [if_pos (by rfl)]
            have hC := awake_any V
            refine wp_enterX 8 #[] (by first | (go_simp; done) | (go_simp; rfl)) (fun v V' => v = .bool true ∧ Below V.heap.size V V') (hC.mono fun e V' ⟨h1, h2⟩ => ⟨_, h1, rfl, h2⟩) ?_
            rintro v V1 ⟨rfl, hb⟩
            refine hK.out (Bl wr) _ _ (Bl.stays wr) (fun _ _ _ => trivial) (Bl.stays wr _ _ hV hb) ?_
            clear hK K hV hC hb
            (try simp only [Act.put, List.getElem_toArray, List.getElem_cons_zero, List.getElem_cons_succ, List.setIfInBounds_toArray, List.set_cons_zero, List.set_cons_succ])
            refine wpDyn_take ?vC16 (Bl.stays wr) (fun _ _ => trivial) (i := 16) rfl (by kernel_rfl) (by kernel_rfl) (by kernel_rfl) (by kernel_rfl) (by kernel_rfl) (fun _ _ _ h => h) (Gives.value (by rfl) ?yC16) ?rC16
            case yC16 => (intro w' hSw; (try dsimp only at hSw); go_simp; try with_reducible rfl)
            (try simp only [Act.put, List.getElem_toArray, List.getElem_cons_zero, List.getElem_cons_succ, List.setIfInBounds_toArray, List.set_cons_zero, List.set_cons_succ])
            refine wpDyn_take ?vC17 (Bl.stays wr) (fun _ _ => trivial) (i := 17) rfl (by kernel_rfl) (by kernel_rfl) (by kernel_rfl) (by kernel_rfl) (by kernel_rfl) (fun _ _ _ h => h) (Gives.value (by rfl) ?yC17) ?rC17
            case yC17 => (intro w' hSw; (try dsimp only at hSw); go_simp; try with_reducible rfl)
            (try simp only [Act.put, List.getElem_toArray, List.getElem_cons_zero, List.getElem_cons_succ, List.setIfInBounds_toArray, List.set_cons_zero, List.set_cons_succ])
            refine wpDyn_done (by kernel_rfl) (fun W2 hW2 => ?_) _
            have HB99 : Hid (Below H w W2) := HB3.out.trans ((HI.out.below (Bl.out' hW2)).bel.mono HHL.out)
            clear hW2
            go_wp2_with fail
            go_ret
            exact ⟨rfl, by have h := HB99.out; rw [HH.out] at h; exact h⟩

end Go.Proofs.Ytpjhadaiodnnaaa.M
