/-
  Own text: the walk of the law TapePlays.
-/
import Derived.Test.YtpjhadaiodnnaaaGreatXP
section
namespace Go.Proofs.YtpjhadaiodnnaaaGreat.M
open Go.ChangeShapes Go.WideShapes Go.ChangeAt Go.RowKit
set_option linter.unusedSimpArgs false

theorem Fz.sync {m : PD} (h : Fz m) (t : TP) : Fz (syT m t).2.1 := h.act _ _

set_option maxRecDepth 20000 in
set_option maxHeartbeats 8000000 in
theorem walk_TapePlays (w : World) (room : Int) (p : Option Addr) (n c : Nat) (ls : List Tv) (hl : RdT w p n ls) :
    Calls Tryz.prog 3 #[.int .i64 room, .slice p n c] w fun e w' => e = .returned (.bool true) ∧ Below w.heap.size w w' := by
  obtain ⟨hTT, hb2⟩ := one_list w p n c ls hl
  have hSh := short_any _ _ 1 1 _ hTT (by decide)
  obtain ⟨H, HH⟩ : ∃ z, Hid (z = w.heap.size) := ⟨_, rfl⟩
  have HB2 : Hid (Below H w (w.alloc (.cells #[.slice p n c] 22))) := by rw [HH.out]; exact hb2
  have HL : Hid (RdT w p n ls) := hl
  clear hTT hb2 hl
  go_enter Tryz.func3, Tryz.ntmps3
  go_wp2_with fail
  refine hSh.mono ?_
  rintro e1 w3 ⟨⟨b, rfl, hbt⟩, hb3⟩
  clear hSh
  have HB3 : Hid (Below H w w3) := HB2.out.trans (hb3.mono (by rw [HH.out]; simp))
  have HH3 : Hid (H ≤ w3.heap.size) := Nat.le_trans (by rw [HH.out]; exact Nat.le_refl _) HB3.out.size
  have HBT : Hid (b = true → totT [ls] 1 ≤ 16384 ∧ cntT [ls] 1 ≤ 60) := hbt
  clear hb3 hbt
  cases b with
  | false =>
    have hAw := awake_any w3
    go_wp2_with fail
    refine hAw.mono ?_
    rintro e2 w9 ⟨rfl, hb9⟩
    clear hAw
    have HB9 : Hid (Below H w w9) := HB3.out.trans (hb9.mono HH3.out)
    clear hb9
    go_wp2_with fail
    go_ret
    exact ⟨rfl, by have h := HB9.out; rw [HH.out] at h; exact h⟩
  | true =>
    obtain ⟨hb1, hb2⟩ := HBT.out rfl
    have t0 := tot_each (LL := [ls]) 1 hb1 0 (by decide)
    have HN : Hid (n ≤ 60) := by show _ ≤ _; rw [← HL.out.len]; exact Nat.le_trans t0.2 hb2
    have HSZ : Hid (szT ls n ≤ 16384) := by show _ ≤ _; rw [← HL.out.len]; exact t0.1
    obtain ⟨R, hR, hR1, hR2⟩ : ∃ N : Nat, wrap64 (1 + wrap64 ((IntKind.u64.wrap room).tmod 1048576)) = (N : Int) ∧ 1 ≤ N ∧ N ≤ 1048576 := room_num room
    have HR : Hid (1 ≤ R ∧ R ≤ 4194304) := ⟨hR1, by omega⟩
    have hNw := New_P w3 R hR1 (by omega)
    obtain ⟨L, HLL⟩ : ∃ z, Hid (z = w3.heap.size) := ⟨_, rfl⟩
    rw [← HLL.out] at hNw
    have HHL : Hid (H ≤ L) := by rw [HLL.out]; exact HH3.out
    clear t0 hb1 hb2 HBT hR1 hR2
    go_wp2_with fail
    rw [hR]
    refine hNw.mono ?_
    rintro e2 w4 ⟨g, rfl, ⟨ow4, d4, hD4⟩, hb4⟩
    clear hNw hR
    have hRn := rnew_any w4 R HR.out.1 HR.out.2
    have HD4 : Hid (DS w4 L 0 g ow4 d4 (pd0 R) ∧ Below L w3 w4) := ⟨hD4, hb4⟩
    clear hD4 hb4
    go_wp2_with fail
    refine hRn.mono ?_
    rintro e3 w5 ⟨rfl, hR5, hb5⟩
    clear hRn
    obtain ⟨gy, Hgy⟩ : ∃ z, Hid (z = w4.heap.size) := ⟨_, rfl⟩
    rw [← Hgy.out] at hR5 ⊢
    have hP5 := PD2.init HD4.out.1 HD4.out.2 Hgy.out hR5 hb5
    have HPd : Hid (Pd (pd0 R) 0) := pd0_pd HR.out.1 HR.out.2
    obtain ⟨ow5, How5⟩ : ∃ z, Hid (z = mkO ow4 (fun j => decide (j = gy))) := ⟨_, rfl⟩
    rw [← How5.out] at hP5
    obtain ⟨m0, Hm0⟩ : ∃ z, Hid (z = pd0 R) := ⟨_, rfl⟩
    have HM0 : Hid (m0.left = 0 ∧ m0.down = false) := by rw [Hm0.out]; exact ⟨rfl, rfl⟩
    rw [← Hm0.out] at hP5 HPd
    have hfew := open_pz HPd.out (N := 500000) (by decide) (by decide)
    have hO := hP5.open1 0 ⟨HPd.out.ok, HM0.out.2⟩ (by decide) HPd.out.by2 (by omega)
    obtain ⟨cz, Hcz⟩ : ∃ z, Hid (z = (opM m0).1) := ⟨_, rfl⟩
    rw [← Hcz.out] at hO
    have HFew : Hid (5 * (cnt m0).2.1.recs.length ≤ 0) := hfew.2.2
    clear hP5 hfew hR5 hb5 HD4
    go_wp2_with fail
    refine hO.mono ?_
    rintro e5 w6 ⟨gt, ow6, rfl, hP6⟩
    clear hO
    have hO := hP6.open2 0 HPd.out.ok (by decide) HPd.out.pre HM0.out.2 HPd.out.by2 (by have := HFew.out; omega)
    rw [← Hcz.out] at hO
    clear hP6
    go_wp2_with fail
    refine hO.mono ?_
    rintro e6 w7 ⟨gx, ow7, rfl, hP7⟩
    clear hO
    have hI7 := LI.opened (j := 0) hP7 HPd.out (by decide) (by decide) HM0.out.1 HM0.out.2
    rw [← Hcz.out] at hI7
    obtain ⟨v9, Hv9⟩ : ∃ z, Hid (z = opT cz gt) := ⟨_, rfl⟩
    obtain ⟨v11, Hv11⟩ : ∃ z, Hid (z = opT cz gx) := ⟨_, rfl⟩
    rw [← Hv9.out, ← Hv11.out] at hI7 ⊢
    have hTl := hI7.tells (by decide)
    have HI7 : Hid (LI w3 w7 L g gy 0 v9 v11) := hI7
    clear hP7 hI7
    go_wp2_with fail
    refine hTl.mono ?_
    rintro e7 w8 ⟨rfl, hb8⟩
    clear hTl
    have HI8 : Hid (LI w3 w8 L g gy 0 v9 v11) := HI7.out.below hb8
    clear hb8 HI7 HFew HM0 HPd Hm0 How5 Hgy Hcz
    go_wp2_with fail
    go_loopw [9, 11, 64] (fun v9 v11 ix wr => ∃ (jj : Nat), jj ≤ n ∧ ix = .int .i64 jj ∧ LI w3 wr L g gy jj v9 v11) (fun _ _ ix _ => n - (intOf ix).toNat)
    case atStart => exact ⟨0, Nat.zero_le _, rfl, HI8.out⟩
    case round =>
      clear Hv9 Hv11 HI8
      obtain ⟨jj, hjj, rfl, hI⟩ := hrel
      by_cases hjn : jj < n
      · have hji : (jj : Int) < (n : Int) := by omega
        obtain ⟨cz, gt, gx, own, mm, tt, rfl, rfl, hP, hd, ht, hw⟩ := hI
        obtain ⟨lb_, lo_, rfl, hcl⟩ := HL.out.cells (by omega)
        have hbw : Below H w wr := HB3.out.trans (hP.bel.mono HHL.out)
        have hat := (hcl jj hjn).below hbw (by rw [HH.out]; exact World.block_lt_of_cell? _ _ (hcl jj hjn).c0)
        have hrd := HL.out.rd jj hjn
        have hn60 := HN.out
        obtain ⟨x, Hx⟩ : ∃ z, Hid (z = ls.getD jj .z0) := ⟨_, rfl⟩
        rw [← Hx.out] at hat hrd
        have HSz : Hid (szT ls (jj + 1) = szT ls jj + x.sz ∧ szT ls (jj + 1) ≤ 16384 ∧ jj + 1 ≤ 60) := ⟨by rw [Hx.out]; rfl, Nat.le_trans (szT_mono ls n (jj + 1) (by omega)) HSZ.out, by omega⟩
        have HXL : Hid (x.bl = x.b.length ∧ x.ll = x.l.length ∧ x.bl ≤ 16384 ∧ x.ll ≤ 4096 ∧ x.kl ≤ 16384) := by
          have h1 := HSz.out
          have h2 : x.sz = min x.bl 16385 + min x.kl 16385 + lsz x.l x.ll := rfl
          have h3 := lsz_ge x.l x.ll
          exact ⟨hrd.b.len.symm, by rw [← hrd.v.len, hrd.s.1], by omega, by omega, by omega⟩
        have HCO : Hid (lsz x.l x.l.length ≤ 16384) := by
          have h1 := HSz.out
          have h2 : x.sz = min x.bl 16385 + min x.kl 16385 + lsz x.l x.ll := rfl
          show _ ≤ _
          rw [← HXL.out.2.1]
          omega
        have hLw := hP.ts.o.lw
        have hbx := below_alloc wr (.cells #[.int .i64 x.op, .int .i64 x.n, .slice x.bq x.bl x.bc, .slice x.lq x.ll x.lc, .slice x.kq x.kl x.kc] 44)
        have hAx := At.new 44 wr #[.int .i64 x.op, .int .i64 x.n, .slice x.bq x.bl x.bc, .slice x.lq x.ll x.lc, .slice x.kq x.kl x.kc]
        obtain ⟨bx0, Hbx0⟩ : ∃ z, Hid (z = wr.heap.size) := ⟨_, rfl⟩
        obtain ⟨wb, Hwb⟩ : ∃ z, Hid (z = wr.alloc (.cells #[.int .i64 x.op, .int .i64 x.n, .slice x.bq x.bl x.bc, .slice x.lq x.ll x.lc, .slice x.kq x.kl x.kc] 44)) := ⟨_, rfl⟩
        rw [← Hwb.out] at hbx hAx
        rw [← Hbx0.out] at hAx
        have HP : Hid (PB w3 wr L g gt gy gx own mm tt mm tt) := hP
        have HD : Hid (Pd mm (100000 + 30000 * jj) ∧ Pt tt (500000 + jj) ∧ mm.down = false) := ⟨hd, ht, hw⟩
        have HBX : Hid (Below wr.heap.size wr wb ∧ At 44 wb bx0 #[.int .i64 x.op, .int .i64 x.n, .slice x.bq x.bl x.bc, .slice x.lq x.ll x.lc, .slice x.kq x.kl x.kc]) := ⟨hbx, hAx⟩
        have HBW : Hid (Below H w wb) := hbw.trans (hbx.mono (Nat.le_trans HHL.out hLw))
        have HHB : Hid (H ≤ wb.heap.size) := Nat.le_trans (Nat.le_trans HHL.out hLw) hbx.size
        have HRD : Hid (x.rd w) := hrd
        obtain ⟨c0, c1, c2, c3, c4⟩ := hat
        clear hP hd ht hw hcl hbw hrd hbx hAx hLw
        by_cases hcz : cz = 0
        · have eo : ∀ x, opT cz x = .pointer (some ⟨x, 0, none⟩) := fun x => by unfold opT; rw [if_pos hcz]
          rw [eo, eo]
          clear eo hcz
          have hC := sclone_mut x.bq x.bl x.bc x.b wb (HRD.out.b.below' (by rw [← HH.out]; exact HBW.out)) (by have := HXL.out; omega)
          go_wp2_with fail
          rw [← Hwb.out]
          refine hC.mono ?_
          rintro e3 wc ⟨pB, cB, rfl, hrB, hmB, hgB, hbB⟩
          clear hC
          obtain ⟨ow1, How1⟩ : ∃ z, Hid (z = mkO own (fun k => decide (wr.heap.size ≤ k ∧ k < wc.heap.size))) := ⟨_, rfl⟩
          have hb0 := HBX.out.1.trans (hbB.mono HBX.out.1.size)
          have hmk : ∀ k, wr.heap.size ≤ k → k < wc.heap.size → ow1 k = lawM := fun k h1 h2 => by rw [How1.out]; exact mkO_yes (decide_eq_true ⟨h1, h2⟩)
          have HPC : Hid (PB w3 wc L g gt gy gx ow1 mm tt mm tt) := by
            show PB _ _ _ _ _ _ _ _ _ _ _ _
            rw [How1.out]
            exact HP.out.law (Ch.of_below hb0 (fun _ => False)) (fun k e => e.elim) _ (fun k e => of_decide_eq_true e)
          have HAC : Hid (At 44 wc bx0 #[.int .i64 x.op, .int .i64 x.n, .slice x.bq x.bl x.bc, .slice x.lq x.ll x.lc, .slice x.kq x.kl x.kc] ∧ ow1 bx0 = lawM ∧ bx0 ≠ gy ∧ bx0 ≠ gx) := by
            have h1 := HP.out.lts
            have h2 := HBX.out.2.lt
            have h3 := hbB.size
            have h4 := Hbx0.out
            exact ⟨HBX.out.2.below hbB, hmk bx0 (by omega) (by omega), by omega, by omega⟩
          have HLC : Hid (LB wc ow1 gy gx pB x.bl ∧ Rd .u8 wc pB x.bl cB x.b) := ⟨⟨hmB, fun a ea h0 => by
            have h1 := HP.out.lts
            have h2 := hgB a ea h0
            have h3 := HBX.out.1.size
            exact ⟨hmk a.block (by omega) (by omega), by omega, by omega⟩⟩, hrB⟩
          have HSC : Hid (SB w3 L g gt gy gx bx0 #[.int .i64 x.op, .int .i64 x.n, .slice x.bq x.bl x.bc, .slice x.lq x.ll x.lc, .slice x.kq x.kl x.kc] pB x.bl mm tt mm tt wc) := ⟨ow1, HPC.out, HAC.out.1, HAC.out.2.1, HAC.out.2.2.1, HAC.out.2.2.2, HLC.out.1⟩
          have HJ : Hid (100000 + 30000 * jj ≤ 4000000 ∧ jj ≤ 60) := by have := HSz.out; exact ⟨by omega, by omega⟩
          have hx0 := HAC.out.1.cell 0
          rw [Hbx0.out] at hx0
          clear hb0 hmk hrB hmB hgB hbB c0 c1 c2 c3 c4
          cases h4 : (bits BinOp.and IntKind.i64 x.op 7 == 4) with
          | true =>
              as_aux_lemma =>
                have hC := HPC.out.sync1 HD.out.1 HJ.out.1 HD.out.2.2 HD.out.2.1
                go_wp2_with fail
                refine hC.mono ?_
                rintro e4 wd ⟨rfl, hP1⟩
                clear hC hx0
                have HS1 : Hid (SB w3 L g gt gy gx bx0 #[.int .i64 x.op, .int .i64 x.n, .slice x.bq x.bl x.bc, .slice x.lq x.ll x.lc, .slice x.kq x.kl x.kc] pB x.bl (syT mm tt).2.1 (syT mm tt).2.2 mm tt wd) := SB.p1 HPC.out HAC.out.1 HAC.out.2.1 HAC.out.2.2.1 HAC.out.2.2.2 HLC.out.1 hP1
                clear hP1
                obtain ⟨ow2, hP2, hA2, ho2, hn1, hn2, hL2⟩ := HS1.out
                have hC := hP2.sync2 HD.out.1 HJ.out.1 HD.out.2.2 HD.out.2.1
                have HSP : Hid (∀ W, P2 w3 wd L g gt gy gx ow2 (syT mm tt).2.1 (syT mm tt).2.2 (syT mm tt).2.1 (syT mm tt).2.2 W → SB w3 L g gt gy gx bx0 #[.int .i64 x.op, .int .i64 x.n, .slice x.bq x.bl x.bc, .slice x.lq x.ll x.lc, .slice x.kq x.kl x.kc] pB x.bl (syT mm tt).2.1 (syT mm tt).2.2 (syT mm tt).2.1 (syT mm tt).2.2 W) := fun W h => SB.p2 hA2 ho2 hn1 hn2 hL2 h
                clear hP2 hA2 ho2 hn1 hn2 hL2
                go_wp2_with fail
                refine hC.mono ?_
                rintro e5 we ⟨rfl, hP3⟩
                clear hC
                have hS3 := HSP.out _ hP3
                clear hP3
                have HS9 : Hid (SB w3 L g gt gy gx bx0 #[.int .i64 x.op, .int .i64 x.n, .slice x.bq x.bl x.bc, .slice x.lq x.ll x.lc, .slice x.kq x.kl x.kc] pB x.bl ((syT mm tt).2.1) ((syT mm tt).2.2) ((syT mm tt).2.1) ((syT mm tt).2.2) we) := hS3
                have HD9 : Hid (Pd ((syT mm tt).2.1) (100000 + 30000 * jj + 17000) ∧ Pt ((syT mm tt).2.2) (500000 + (jj + 1)) ∧ Fz ((syT mm tt).2.1)) := ⟨(sync_pz HD.out.1 HD.out.2.1).1.mono (by omega), (sync_pz HD.out.1 HD.out.2.1).2.mono (by omega), Fz.sync (fun e => by rw [HD.out.2.2] at e; cases e) tt⟩
                obtain ⟨cd, Hcd⟩ : ∃ z, Hid (z = (syT mm tt).1) := ⟨_, rfl⟩
                obtain ⟨m9, Hm9⟩ : ∃ z, Hid (z = (syT mm tt).2.1) := ⟨_, rfl⟩
                obtain ⟨t9, Ht9⟩ : ∃ z, Hid (z = (syT mm tt).2.2) := ⟨_, rfl⟩
                rw [← Hm9.out, ← Ht9.out] at HS9
                rw [← Hm9.out, ← Ht9.out] at HD9
                (try rw [← Hcd.out])
                go_wp2_with fail
                go_loopw [163] (fun ix wq => ∃ (k : Nat), k ≤ x.bl ∧ ix = .int .i64 k ∧ SB w3 L g gt gy gx bx0 #[.int .i64 x.op, .int .i64 x.n, .slice x.bq x.bl x.bc, .slice x.lq x.ll x.lc, .slice x.kq x.kl x.kc] pB x.bl m9 t9 m9 t9 wq) (fun ix _ => x.bl - (intOf ix).toNat)
                case atStart => exact ⟨0, Nat.zero_le _, rfl, HS9.out⟩
                case round =>
                  obtain ⟨k, hk, rfl, hS⟩ := hrel
                  by_cases hkl : k < x.bl
                  · have hki : (k : Int) < (x.bl : Int) := by omega
                    have hbl : x.bl ≤ 16384 := HXL.out.2.2.1
                    obtain ⟨b, rfl, hcl⟩ := hS.cell (by omega)
                    obtain ⟨⟨v, hv⟩, hfz⟩ := hcl k hkl
                    have HSn : Hid (∀ v, SB w3 L g gt gy gx bx0 #[.int .i64 x.op, .int .i64 x.n, .slice x.bq x.bl x.bc, .slice x.lq x.ll x.lc, .slice x.kq x.kl x.kc] (some ⟨b, 0, none⟩) x.bl m9 t9 m9 t9 (World.setCell _ ⟨b, k, none⟩ (.int .u8 v))) := fun v => hS.setB (op := x.op) rfl (by omega) rfl k v
                    clear hS hcl
                    go_wp2_with fail
                    go_roundw
                    case rel => exact ⟨k + 1, by omega, by go_num, HSn.out _⟩
                    case measure => simp [intOf]; omega
                  · have hki : ¬ (k : Int) < (x.bl : Int) := by omega
                    obtain ⟨ow9, hP9, _⟩ := hS
                    rename World => wq
                    obtain ⟨_, hoff, hfr, _⟩ := hP9.on2
                    have HP9 : Hid (PB w3 wq L g gt gy gx ow9 m9 t9 m9 t9) := hP9
                    clear hP9
                    cases hdn : m9.down with
                    | false =>
                      rw [hdn] at hoff
                      have HI9 : Hid (LI w3 wq L g gy (jj + 1) (.pointer (some ⟨gt, 0, none⟩)) (.pointer (some ⟨gx, 0, none⟩))) := LI.mk0 HP9.out (HD9.out.1.mono (by omega)) HD9.out.2.1 hdn
                      have hTl := HI9.out.tells HSz.out.2.2
                      clear hfr hdn
                      go_wp2_with fail
                      refine hTl.mono ?_
                      rintro e5 w10 ⟨rfl, hb10⟩
                      clear hTl hoff
                      have HI10 := HI9.out.below hb10
                      have hFa := HI10.face HSz.out.2.2
                      have HI10 : Hid (LI w3 w10 L g gy (jj + 1) (.pointer (some ⟨gt, 0, none⟩)) (.pointer (some ⟨gx, 0, none⟩))) := HI10
                      clear hb10
                      go_wp2_with fail
                      refine hFa.mono ?_
                      rintro e6 w11 ⟨rfl, hb11⟩
                      clear hFa
                      have HI11 : Hid (LI w3 w11 L g gy (jj + 1) (.pointer (some ⟨gt, 0, none⟩)) (.pointer (some ⟨gx, 0, none⟩))) := HI10.out.below hb11
                      clear hb11
                      go_wp2_with fail
                      go_roundw
                      case rel => exact ⟨jj + 1, by omega, by go_num, HI11.out⟩
                      case measure => simp [intOf]; omega
                    | true =>
                      rw [hdn] at hoff
                      have HLf : Hid (m9.left = 0) := HD9.out.2.2 hdn
                      have hSt := HP9.out.start1 HD9.out.1.r0
                      clear hfr hdn
                      go_wp2_with fail
                      refine hSt.mono ?_
                      rintro e5 w10 ⟨rfl, ow10, hP10, _, _⟩
                      clear hSt hoff
                      obtain ⟨⟨u10, hu10⟩, _, hf10, hP11⟩ := hP10.on2
                      have HD2 : Hid (PD2 w3 (w10.setCell ⟨gy, 25, none⟩ (.bool false)) L g gy ow10 { m9 with down := false } { m9 with down := false }) := hP11.1.d
                      clear hP10 hP11
                      obtain ⟨m3, Hm3⟩ : ∃ z : PD, Hid (z = { m9 with down := false }) := ⟨_, rfl⟩
                      rw [← Hm3.out] at HD2
                      have HM3 : Hid (Pd m3 (100000 + 30000 * jj + 17000) ∧ m3.down = false ∧ m3.left = 0) := by rw [Hm3.out]; exact ⟨HD9.out.1.on, rfl, HLf.out⟩
                      have HFew : Hid (5 * (cnt m3).2.1.recs.length ≤ 100000 + 30000 * jj + 17000) := (open_pz HM3.out.1 (N := 500000) (by have := HJ.out; omega) (by have := HJ.out; omega)).2.2
                      have hO := HD2.out.open1 _ ⟨HM3.out.1.ok, HM3.out.2.1⟩ (by have := HJ.out; omega) HM3.out.1.by2 (by have := HFew.out; have := HJ.out; omega)
                      obtain ⟨cz2, Hcz2⟩ : ∃ z, Hid (z = (opM m3).1) := ⟨_, rfl⟩
                      rw [← Hcz2.out] at hO
                      go_wp2_with fail
                      refine hO.mono ?_
                      rintro e6 w11 ⟨gt2, ow11, rfl, hP11⟩
                      clear hO hu10 hf10
                      have hO := hP11.open2 _ HM3.out.1.ok (by have := HJ.out; omega) HM3.out.1.pre HM3.out.2.1 HM3.out.1.by2 (by have := HFew.out; have := HJ.out; omega)
                      rw [← Hcz2.out] at hO
                      clear hP11
                      go_wp2_with fail
                      refine hO.mono ?_
                      rintro e7 w12 ⟨gx2, ow12, rfl, hP12⟩
                      clear hO
                      have hI12 := LI.opened (j := jj + 1) hP12 HM3.out.1 (by omega) HSz.out.2.2 HM3.out.2.2 HM3.out.2.1
                      rw [← Hcz2.out] at hI12
                      obtain ⟨v9, Hv9⟩ : ∃ z, Hid (z = opT cz2 gt2) := ⟨_, rfl⟩
                      obtain ⟨v11, Hv11⟩ : ∃ z, Hid (z = opT cz2 gx2) := ⟨_, rfl⟩
                      rw [← Hv9.out, ← Hv11.out] at hI12 ⊢
                      have hTl := hI12.tells HSz.out.2.2
                      have HI12 : Hid (LI w3 w12 L g gy (jj + 1) v9 v11) := hI12
                      clear hP12 hI12
                      go_wp2_with fail
                      refine hTl.mono ?_
                      rintro e8 w13 ⟨rfl, hb13⟩
                      clear hTl
                      have hI13 := HI12.out.below hb13
                      have hFa := hI13.face HSz.out.2.2
                      have HI13 : Hid (LI w3 w13 L g gy (jj + 1) v9 v11) := hI13
                      clear hb13 hI13
                      go_wp2_with fail
                      refine hFa.mono ?_
                      rintro e9 w14 ⟨rfl, hb14⟩
                      clear hFa
                      have HI14 : Hid (LI w3 w14 L g gy (jj + 1) v9 v11) := HI13.out.below hb14
                      clear hb14
                      go_wp2_with fail
                      go_roundw
                      case rel => exact ⟨jj + 1, by omega, by go_num, HI14.out⟩
                      case measure => simp [intOf]; omega
          | false =>
            cases h5 : (bits BinOp.and IntKind.i64 x.op 7 == 5) with
            | true =>
              as_aux_lemma =>
                have HRB : Hid (∀ W, Below L w3 W → Rd .u8 W x.bq x.bl x.bc x.b) := fun W h => HRD.out.b.below' (by rw [← HH.out]; exact HB3.out.trans (h.mono HHL.out))
                have HRV : Hid (∀ W, Below L w3 W → RdV W x.lq x.ll x.lc x.us ∧ Sls W x.us x.l) := fun W h => by
                  have h1 := HB3.out.trans (h.mono HHL.out)
                  rw [HH.out] at h1
                  exact ⟨HRD.out.v.below h1, HRD.out.s.below h1⟩
                have hx3 := HAC.out.1.cell 3
                rw [Hbx0.out] at hx3
                obtain ⟨i0, hi0, hz0, hz1, hz2⟩ := info_parts infoS
                go_wp2_with fail
                rw [← Hbx0.out]
                clear hx0 hx3
                obtain ⟨lq, Hlq⟩ : ∃ z, Hid (z = x.lq) := ⟨_, rfl⟩
                rw [← Hlq.out]
                go_loopw [96, 16] (fun ix gv wq => ∃ (k : Nat) (pG : Option Addr) (cG : Nat) (vs : List Value), k ≤ x.ll ∧ ix = .int .i64 k ∧ gv = .slice pG k cG ∧ OwV 40 wq wc.heap.size pG k cG vs ∧ Slo 5 wq wc.heap.size vs (x.l.take k) ∧ Below wc.heap.size wc wq) (fun ix _ _ => x.ll - (intOf ix).toNat)
                case atStart => exact ⟨0, none, 0, [], Nat.zero_le _, rfl, rfl, OwV.empty _ _ _ _, Slo.nil _ _ _, Below.refl _ _⟩
                case round =>
                  obtain ⟨k, pG, cG, vs, hk, rfl, rfl, ho, hs, hb⟩ := hrel
                  rename World => wq
                  by_cases hkl : k < x.ll
                  · have hki : (k : Int) < (x.ll : Int) := by omega
                    have hll : x.ll ≤ 4096 := HXL.out.2.2.2.1
                    have Hkr : Hid (k < x.l.length) := by show _ < _; rw [← HXL.out.2.1]; exact hkl
                    have hBq : Below L w3 wq := HPC.out.bel.trans (hb.mono HPC.out.ts.o.lw)
                    obtain ⟨b, o, elq, hcl⟩ := (HRV.out wq hBq).1.cells (by omega)
                    obtain ⟨q, m, d, hq, hr⟩ := (HRV.out wq hBq).2.2 k (by rw [HRD.out.s.1]; exact Hkr.out)
                    have hcx := hcl k hkl
                    rw [hq] at hcx
                    have Hm : Hid (m ≤ 16384) := by
                      show m ≤ 16384
                      rw [← hr.len]
                      exact lsz_each Hkr.out HCO.out
                    have hC := sclone_own q m d _ wq hr (by have := Hm.out; omega)
                    have hsz := hb.size
                    have HOS : Hid (OwV 40 wq wc.heap.size pG k cG vs ∧ Slo 5 wq wc.heap.size vs (x.l.take k) ∧ Below wc.heap.size wc wq) := ⟨ho, hs, hb⟩
                    have elq2 := Hlq.out.trans elq
                    subst elq2
                    clear hcl hq hr hBq elq ho hs hb
                    go_wp2_with fail
                    refine hC.mono ?_
                    rintro e8 w8 ⟨p8, c8, rfl, ho8, hb8⟩
                    clear hC hcx
                    have hoL := HOS.out.1.below hb8
                    have hbb := HOS.out.2.2.trans (hb8.mono hsz)
                    have hsz8 := hbb.size
                    have HS8 : Hid (Slo 5 w8 wc.heap.size vs (x.l.take k) ∧ Ow .u8 5 w8 wc.heap.size p8 m c8 (x.l.getD k []) ∧ Below wc.heap.size wc w8) := ⟨HOS.out.2.1.below hb8, ho8.ow.lower hsz, hbb⟩
                    have hcz : (w8.alloc (.cells #[.slice p8 m c8] 40)).cell? ⟨w8.heap.size, 0, none⟩ = some (.slice p8 m c8) := by simp
                    clear ho8 hb8 hbb hsz
                    go_wp2_with (refine wpList_appV _ rfl (.tmp 100) (.tmp 103) 41 rfl 40 i0 (.slice none 0 0) 24 Tryz.underlying41 hi0 hz0 hz1 hz2 rfl wc.heap.size pG k cG vs rfl (hoL.below (below_alloc _ _)) _ _ _ _ rfl hcz rfl ?sv1 ?sv2 ?sv3 ?_)
                    case sv1 => omega
                    case sv2 => unfold maxLen; omega
                    case sv3 => (simp; omega)
                    intro p9 c9 w9 ho9 hb9 hk9
                    have HN9 : Hid (OwV 40 w9 wc.heap.size p9 (k + 1) c9 (vs ++ [.slice p8 m c8]) ∧ Slo 5 w9 wc.heap.size (vs ++ [.slice p8 m c8]) (x.l.take (k + 1)) ∧ Below wc.heap.size wc w9) := by
                      refine ⟨ho9, ?_, (HS8.out.2.2.alloc HS8.out.2.2.size (.cells #[.slice p8 m c8] 40)).trans hb9⟩
                      rw [take_snocL Hkr.out]
                      exact ((HS8.out.1.below (below_alloc _ (.cells #[.slice p8 m c8] 40))).snoc (HS8.out.2.1.below (below_alloc _ _))).kept hk9 (by decide)
                    clear ho9 hb9 hk9 hoL hcz
                    go_wp2_with fail
                    go_roundw
                    case rel => exact ⟨k + 1, p9, c9, _, by omega, by go_num, by go_num, HN9.out.1, HN9.out.2.1, HN9.out.2.2⟩
                    case measure => simp [intOf]; omega
                  · have hki : ¬ (k : Int) < (x.ll : Int) := by omega
                    obtain rfl : k = x.ll := by omega
                    have HG : Hid (SG w3 L g gt gy gx bx0 #[.int .i64 x.op, .int .i64 x.n, .slice x.bq x.bl x.bc, .slice x.lq x.ll x.lc, .slice x.kq x.kl x.kc] pB x.bl pG x.ll cG vs mm tt mm tt wq ∧ Rd .u8 wq pB x.bl cB x.b ∧ Sls wq vs x.l) := by
                      have e1 : x.l.take x.ll = x.l := List.take_of_length_le (by rw [HXL.out.2.1]; exact Nat.le_refl _)
                      rw [e1] at hs
                      exact ⟨SG.init HPC.out HAC.out.1 HAC.out.2.1 HAC.out.2.2.1 HAC.out.2.2.2 HLC.out.1 ho hs (getD_all (P := fun d => d.length ≤ 16384) fun i hi => lsz_each hi HCO.out) hb, HLC.out.2.below' hb, hs.sls⟩
                    have HSL : Hid ((sealR ⟨tt.r.gen + 1, x.b, x.l⟩).length ≤ 90000) := by
                      have h1 := sealR_cost (g := tt.r.gen + 1) (base := x.b) (l := x.l) (by have := HD.out.2.1.gen; omega) HCO.out (by have := HXL.out; omega)
                      have h2 := HCO.out
                      have h3 := HXL.out
                      show _ ≤ _
                      omega
                    clear ho hs hb hki hk hkl
                    obtain ⟨m8, Hm8⟩ : ∃ z, Hid (z = (svT mm tt x.b x.l).2.1) := ⟨_, rfl⟩
                    obtain ⟨t8, Ht8⟩ : ∃ z, Hid (z = (svT mm tt x.b x.l).2.2) := ⟨_, rfl⟩
                    obtain ⟨c8, Hc8⟩ : ∃ z, Hid (z = (svT mm tt x.b x.l).1) := ⟨_, rfl⟩
                    have HP8 : Hid (Pd m8 (100000 + 30000 * jj + 17000) ∧ Pt t8 (500000 + (jj + 1)) ∧ Fz m8) := by
                      rw [Hm8.out, Ht8.out]
                      have h1 := save_pz HD.out.1 HD.out.2.1 HRD.out.y HRD.out.z (S2 := 100000 + 30000 * jj + 17000) (N2 := 500000 + (jj + 1)) (by omega) (by have := HSL.out; omega) (by omega) (by have := HXL.out; omega)
                      exact ⟨h1.1, h1.2, Fz.save (fun e => by rw [HD.out.2.2] at e; cases e) tt x.b x.l⟩
                    go_wp2_with fail
                    have hS8 : (SG w3 L g gt gy gx bx0 #[.int .i64 x.op, .int .i64 x.n, .slice x.bq x.bl x.bc, .slice x.lq x.ll x.lc, .slice x.kq x.kl x.kc] pB x.bl pG x.ll cG vs mm tt mm tt wq.drew) ∧ Rd .u8 wq.drew pB x.bl cB x.b ∧ Sls wq.drew vs x.l := ⟨SG.stays _ _ HG.out.1 (Below.refl _ _).drew, HG.out.2.1.below' (Below.refl _ _).drew, HG.out.2.2.below (Below.refl _ _).drew⟩
                    refine wp_region_dyn [0, 1, 2, 4, 5, 6, 7, 8, 9] (fun W => At 44 W bx0 #[.int .i64 x.op, .int .i64 x.n, .slice x.bq x.bl x.bc, .slice x.lq x.ll x.lc, .slice x.kq x.kl x.kc] ∧ Below L w3 W) (fun W => SG w3 L g gt gy gx bx0 #[.int .i64 x.op, .int .i64 x.n, .slice x.bq x.bl x.bc, .slice x.lq x.ll x.lc, .slice x.kq x.kl x.kc] pB x.bl pG x.ll cG vs mm tt mm tt W ∧ Rd .u8 W pB x.bl cB x.b ∧ Sls W vs x.l) (by kernel_rfl) hS8 ?_
                    clear hS8
                    refine wpDyn_take ?vP1x0 (fun _ _ h hb => ⟨SG.stays _ _ h.1 hb, h.2.1.below' hb, h.2.2.below hb⟩) (fun _ h => h.1.s0) (i := 0) rfl (by kernel_rfl) (by kernel_rfl) (by kernel_rfl) (by kernel_rfl) (by kernel_rfl) (fun _ _ _ h => h) (Gives.value (by rfl) ?yP1x0) ?rP1x0
                    case yP1x0 => (intro w' hSw; clear hSw; go_simp; try with_reducible rfl)
                    (try simp only [Act.put, List.getElem_toArray, List.getElem_cons_zero, List.getElem_cons_succ, List.setIfInBounds_toArray, List.set_cons_zero, List.set_cons_succ])
                    refine wpDyn_take ?vP1x1 (fun _ _ h hb => ⟨SG.stays _ _ h.1 hb, h.2.1.below' hb, h.2.2.below hb⟩) (fun _ h => h.1.s0) (i := 1) rfl (by kernel_rfl) (by kernel_rfl) (by kernel_rfl) (by kernel_rfl) (by kernel_rfl) (fun _ _ _ h => h) (Gives.value (by rfl) ?yP1x1) ?rP1x1
                    case yP1x1 => (intro w' hSw; clear hSw; go_simp; try with_reducible rfl)
                    (try simp only [Act.put, List.getElem_toArray, List.getElem_cons_zero, List.getElem_cons_succ, List.setIfInBounds_toArray, List.set_cons_zero, List.set_cons_succ])
                    refine wpDyn_take ?vP1x2 (fun _ _ h hb => ⟨SG.stays _ _ h.1 hb, h.2.1.below' hb, h.2.2.below hb⟩) (fun _ h => h.1.s0) (i := 2) rfl (by kernel_rfl) (by kernel_rfl) (by kernel_rfl) (by kernel_rfl) (by kernel_rfl) (fun _ _ _ h => h) (Gives.value (by rfl) ?yP1x2) ?rP1x2
                    case yP1x2 => (intro w' hSw; clear hSw; go_simp; try with_reducible rfl)
                    (try simp only [Act.put, List.getElem_toArray, List.getElem_cons_zero, List.getElem_cons_succ, List.setIfInBounds_toArray, List.set_cons_zero, List.set_cons_succ])
                    refine wpDyn_take ?vP1x4 (fun _ _ h hb => ⟨SG.stays _ _ h.1 hb, h.2.1.below' hb, h.2.2.below hb⟩) (fun _ h => h.1.s0) (i := 4) rfl (by kernel_rfl) (by kernel_rfl) (by kernel_rfl) (by kernel_rfl) (by kernel_rfl) (fun _ _ _ h => h) (Gives.value (by rfl) ?yP1x4) ?rP1x4
                    case yP1x4 => (intro w' hSw; clear hSw; go_simp; try with_reducible rfl)
                    (try simp only [Act.put, List.getElem_toArray, List.getElem_cons_zero, List.getElem_cons_succ, List.setIfInBounds_toArray, List.set_cons_zero, List.set_cons_succ])
                    refine wpDyn_take ?vP1x5 (fun _ _ h hb => ⟨SG.stays _ _ h.1 hb, h.2.1.below' hb, h.2.2.below hb⟩) (fun _ h => h.1.s0) (i := 5) rfl (by kernel_rfl) (by kernel_rfl) (by kernel_rfl) (by kernel_rfl) (by kernel_rfl) (fun _ _ _ h => h) (Gives.value (by rfl) ?yP1x5) ?rP1x5
                    case yP1x5 => (intro w' hSw; clear hSw; go_simp; try with_reducible rfl)
                    (try simp only [Act.put, List.getElem_toArray, List.getElem_cons_zero, List.getElem_cons_succ, List.setIfInBounds_toArray, List.set_cons_zero, List.set_cons_succ])
                    refine wpDyn_take ?vP1x6 (fun _ _ h hb => ⟨SG.stays _ _ h.1 hb, h.2.1.below' hb, h.2.2.below hb⟩) (fun _ h => h.1.s0) (i := 6) rfl (by kernel_rfl) (by kernel_rfl) (by kernel_rfl) (by kernel_rfl) (by kernel_rfl) (fun _ _ _ h => h) (Gives.value (by rfl) ?yP1x6) ?rP1x6
                    case yP1x6 => (intro w' hSw; have hcl := hSw.1.cell 2; clear hSw; go_simp; try with_reducible rfl)
                    (try simp only [Act.put, List.getElem_toArray, List.getElem_cons_zero, List.getElem_cons_succ, List.setIfInBounds_toArray, List.set_cons_zero, List.set_cons_succ])
                    refine wpDyn_take ?vP1x7 (fun _ _ h hb => ⟨SG.stays _ _ h.1 hb, h.2.1.below' hb, h.2.2.below hb⟩) (fun _ h => h.1.s0) (i := 7) rfl (by kernel_rfl) (by kernel_rfl) (by kernel_rfl) (by kernel_rfl) (by kernel_rfl) (fun _ _ _ h => h) (Gives.value (by rfl) ?yP1x7) ?rP1x7
                    case yP1x7 => (intro w' hSw; have hst := (HRB.out w' hSw.2).str; clear hSw; go_simp; try with_reducible rfl)
                    (try simp only [Act.put, List.getElem_toArray, List.getElem_cons_zero, List.getElem_cons_succ, List.setIfInBounds_toArray, List.set_cons_zero, List.set_cons_succ])
                    refine wpDyn_take ?vP1x8 (fun _ _ h hb => ⟨SG.stays _ _ h.1 hb, h.2.1.below' hb, h.2.2.below hb⟩) (fun _ h => h.1.s0) (i := 8) rfl (by kernel_rfl) (by kernel_rfl) (by kernel_rfl) (by kernel_rfl) (by kernel_rfl) (fun _ _ _ h => h) (Gives.value (by rfl) ?yP1x8) ?rP1x8
                    case yP1x8 => (intro w' hSw; clear hSw; go_simp; try with_reducible rfl)
                    (try simp only [Act.put, List.getElem_toArray, List.getElem_cons_zero, List.getElem_cons_succ, List.setIfInBounds_toArray, List.set_cons_zero, List.set_cons_succ])
                    refine wpDyn_take ?vP1x9 (fun _ _ h hb => ⟨SG.stays _ _ h.1 hb, h.2.1.below' hb, h.2.2.below hb⟩) (fun _ h => h.1.s0) (i := 9) rfl (by kernel_rfl) (by kernel_rfl) (by kernel_rfl) (by kernel_rfl) (by kernel_rfl) (fun _ _ _ h => h) (Gives.value (by rfl) ?yP1x9) ?rP1x9
                    case yP1x9 => (intro w' hSw; have hcl := hSw.1.cell 3; clear hSw; go_simp; try with_reducible rfl)
                    (try simp only [Act.put, List.getElem_toArray, List.getElem_cons_zero, List.getElem_cons_succ, List.setIfInBounds_toArray, List.set_cons_zero, List.set_cons_succ])
                    refine wpDyn_ready (rs := [3]) (by kernel_rfl) (by simp) (AllDyn.cons rfl (fun V hV K hK => ?_) AllDyn.nil)
                    rw [if_pos (by rfl)]
                    obtain ⟨ow2, hP2, hA2, ho2, hn1, hn2, hL2, hG2⟩ := hV.1
                    have hC := hP2.save1 HD.out.1 HJ.out.1 HD.out.2.2 HD.out.2.1 pB x.bl cB x.b hV.2.1 HRD.out.y pG x.ll cG vs x.l hG2.rd hV.2.2 HXL.out.2.1 (by have := HXL.out; omega) HRD.out.z
                    rw [← Hm8.out, ← Ht8.out, ← Hc8.out] at hC
                    refine wp_enterX 14 #[.pointer (some ⟨gt, 0, none⟩), .slice pB x.bl cB, .slice pG x.ll cG] (by first | (go_simp; done) | (go_simp; rfl)) (fun v V' => v = .int .i64 c8 ∧ SG w3 L g gt gy gx bx0 #[.int .i64 x.op, .int .i64 x.n, .slice x.bq x.bl x.bc, .slice x.lq x.ll x.lc, .slice x.kq x.kl x.kc] pB x.bl pG x.ll cG vs m8 t8 mm tt V') (hC.mono fun e V' ⟨h1, h2⟩ => ⟨_, h1, rfl, SG.p1 hP2 hA2 ho2 hn1 hn2 hL2 hG2 h2⟩) ?_
                    rintro v V1 ⟨rfl, hS1⟩
                    refine hK.out (SG w3 L g gt gy gx bx0 #[.int .i64 x.op, .int .i64 x.n, .slice x.bq x.bl x.bc, .slice x.lq x.ll x.lc, .slice x.kq x.kl x.kc] pB x.bl pG x.ll cG vs m8 t8 mm tt) _ _ SG.stays (fun _ _ h => h.s0) hS1 ?_
                    clear hK K hC hS1 hP2 hA2 ho2 hn1 hn2 hL2 hG2; try clear hV
                    (try simp only [Act.put, List.getElem_toArray, List.getElem_cons_zero, List.getElem_cons_succ, List.setIfInBounds_toArray, List.set_cons_zero, List.set_cons_succ])
                    refine wpDyn_ready (rs := [10]) (by kernel_rfl) (by simp) (AllDyn.cons rfl (fun V hV K hK => ?_) AllDyn.nil)
                    rw [if_pos (by rfl)]
                    have hC := texts_any x.lq x.ll x.lc x.us x.l V (HRV.out V hV.s0.2).1 (HRV.out V hV.s0.2).2 HXL.out.2.1 (by have := HXL.out; omega)
                    refine wp_enterX 16 #[.slice x.lq x.ll x.lc] (by first | (go_simp; done) | (go_simp; rfl)) (fun v V' => ∃ p' c', v = .slice p' x.ll c' ∧ OwV 9 V' V.heap.size p' x.ll c' (strs x.l) ∧ Below V.heap.size V V') (hC.mono fun e V' ⟨p', c', h1, h2, h3⟩ => ⟨_, h1, p', c', rfl, h2, h3⟩) ?_
                    rintro v V1 ⟨p9, c9, rfl, hR, hb⟩
                    have hlt : gy < V.heap.size ∧ gx < V.heap.size := by
                      obtain ⟨ow2, hP2, _⟩ := hV
                      exact hP2.lts
                    refine hK.out (fun W => SG w3 L g gt gy gx bx0 #[.int .i64 x.op, .int .i64 x.n, .slice x.bq x.bl x.bc, .slice x.lq x.ll x.lc, .slice x.kq x.kl x.kc] pB x.bl pG x.ll cG vs m8 t8 mm tt W ∧ RdV W p9 x.ll c9 (strs x.l) ∧ ∀ y, p9 = some y → 0 < x.ll → y.block ≠ gy ∧ y.block ≠ gx) _ _ (fun _ _ h hb => ⟨SG.stays _ _ h.1 hb, h.2.1.below hb, h.2.2⟩) (fun _ _ h => h.1.s0) ⟨SG.stays _ _ hV hb, hR.rd, fun y ey h0 => by have h8 := (hR.ltC y ey (Nat.lt_of_lt_of_le h0 hR.cap)).1; exact ⟨by omega, by omega⟩⟩ ?_
                    clear hK K hV hC hR hb hlt
                    (try simp only [Act.put, List.getElem_toArray, List.getElem_cons_zero, List.getElem_cons_succ, List.setIfInBounds_toArray, List.set_cons_zero, List.set_cons_succ])
                    refine wpDyn_ready (rs := [11]) (by kernel_rfl) (by simp) (AllDyn.cons rfl (fun V hV K hK => ?_) AllDyn.nil)
                    rw [if_pos (by rfl)]
                    obtain ⟨ow2, hP2, hA2, ho2, hn1, hn2, hL2, hG2⟩ := hV.1
                    have hC := hP2.save2 HD.out.1 HJ.out.1 HD.out.2.2 HD.out.2.1 x.b HRD.out.y p9 x.ll c9 x.l hV.2.1 hV.2.2 (by have := HXL.out; omega) HRD.out.z (by have := HSL.out; omega)
                    rw [← Hm8.out, ← Ht8.out, ← Hc8.out] at hC
                    refine wp_enterX 15 #[.pointer (some ⟨gx, 0, none⟩), .string (strOfNums x.b), .slice p9 x.ll c9] (by first | (go_simp; done) | (go_simp; rfl)) (fun v V' => v = .int .i64 c8 ∧ SG w3 L g gt gy gx bx0 #[.int .i64 x.op, .int .i64 x.n, .slice x.bq x.bl x.bc, .slice x.lq x.ll x.lc, .slice x.kq x.kl x.kc] pB x.bl pG x.ll cG vs m8 t8 m8 t8 V') (hC.mono fun e V' ⟨h1, h2⟩ => ⟨_, h1, rfl, SG.p2 hA2 ho2 hn1 hn2 hL2 hG2 h2⟩) ?_
                    rintro v V1 ⟨rfl, hS1⟩
                    refine hK.out (SG w3 L g gt gy gx bx0 #[.int .i64 x.op, .int .i64 x.n, .slice x.bq x.bl x.bc, .slice x.lq x.ll x.lc, .slice x.kq x.kl x.kc] pB x.bl pG x.ll cG vs m8 t8 m8 t8) _ _ SG.stays (fun _ _ h => h.s0) hS1 ?_
                    clear hK K hC hS1 hP2 hA2 ho2 hn1 hn2 hL2 hG2; try clear hV
                    (try simp only [Act.put, List.getElem_toArray, List.getElem_cons_zero, List.getElem_cons_succ, List.setIfInBounds_toArray, List.set_cons_zero, List.set_cons_succ])
                    refine wpDyn_ready (rs := [12]) (by kernel_rfl) (by simp) (AllDyn.cons rfl (fun V hV K hK => ?_) AllDyn.nil)
                    rw [if_pos (by rfl)]
                    refine wp_value (.int .i64 c8) V (by first | (go_simp; done) | (go_simp; rfl)) ?_
                    refine hK.out (SG w3 L g gt gy gx bx0 #[.int .i64 x.op, .int .i64 x.n, .slice x.bq x.bl x.bc, .slice x.lq x.ll x.lc, .slice x.kq x.kl x.kc] pB x.bl pG x.ll cG vs m8 t8 m8 t8) _ _ SG.stays (fun _ _ h => h.s0) hV ?_
                    clear hK K hV
                    (try simp only [Act.put, List.getElem_toArray, List.getElem_cons_zero, List.getElem_cons_succ, List.setIfInBounds_toArray, List.set_cons_zero, List.set_cons_succ])
                    refine wpDyn_ready (rs := [13]) (by kernel_rfl) (by simp) (AllDyn.cons rfl (fun V hV K hK => ?_) AllDyn.nil)
                    rw [if_pos (by rfl)]
                    refine wp_value (.int .i64 c8) V (by first | (go_simp; done) | (go_simp; rfl)) ?_
                    refine hK.out (SG w3 L g gt gy gx bx0 #[.int .i64 x.op, .int .i64 x.n, .slice x.bq x.bl x.bc, .slice x.lq x.ll x.lc, .slice x.kq x.kl x.kc] pB x.bl pG x.ll cG vs m8 t8 m8 t8) _ _ SG.stays (fun _ _ h => h.s0) hV ?_
                    clear hK K hV
                    (try simp only [Act.put, List.getElem_toArray, List.getElem_cons_zero, List.getElem_cons_succ, List.setIfInBounds_toArray, List.set_cons_zero, List.set_cons_succ])
                    refine wpDyn_done (by kernel_rfl) (fun W2 hW2 => ?_) _
                    clear HG HSL
                    have HW2 : Hid (SG w3 L g gt gy gx bx0 #[.int .i64 x.op, .int .i64 x.n, .slice x.bq x.bl x.bc, .slice x.lq x.ll x.lc, .slice x.kq x.kl x.kc] pB x.bl pG x.ll cG vs m8 t8 m8 t8 W2) := hW2
                    clear hW2
                    go_wp2_with fail
                    go_loopw [120] (fun ix wz => ∃ (k : Nat), k ≤ x.ll ∧ ix = .int .i64 k ∧ SG w3 L g gt gy gx bx0 #[.int .i64 x.op, .int .i64 x.n, .slice x.bq x.bl x.bc, .slice x.lq x.ll x.lc, .slice x.kq x.kl x.kc] pB x.bl pG x.ll cG vs m8 t8 m8 t8 wz) (fun ix _ => x.ll - (intOf ix).toNat)
                    case atStart => exact ⟨0, Nat.zero_le _, rfl, HW2.out⟩
                    case round =>
                      obtain ⟨k, hk, rfl, hS⟩ := hrel
                      rename World => wz
                      by_cases hkl : k < x.ll
                      · have hki : (k : Int) < (x.ll : Int) := by omega
                        have hll : x.ll ≤ 4096 := HXL.out.2.2.2.1
                        obtain ⟨b, o, p, n3, c, rfl, hcl, hrow, hn3⟩ := hS.row hkl
                        have HSz2 : Hid (SG w3 L g gt gy gx bx0 #[.int .i64 x.op, .int .i64 x.n, .slice x.bq x.bl x.bc, .slice x.lq x.ll x.lc, .slice x.kq x.kl x.kc] pB x.bl (some ⟨b, o, none⟩) x.ll cG vs m8 t8 m8 t8 wz) := hS
                        have Hrow : Hid (vs.getD k undef = .slice p n3 c) := hrow
                        clear hS hrow
                        go_wp2_with fail
                        clear hcl
                        go_loopw [126] (fun iy wy => ∃ (i : Nat), i ≤ n3 ∧ iy = .int .i64 i ∧ SG w3 L g gt gy gx bx0 #[.int .i64 x.op, .int .i64 x.n, .slice x.bq x.bl x.bc, .slice x.lq x.ll x.lc, .slice x.kq x.kl x.kc] pB x.bl (some ⟨b, o, none⟩) x.ll cG vs m8 t8 m8 t8 wy) (fun iy _ => n3 - (intOf iy).toNat)
                        case atStart => exact ⟨0, Nat.zero_le _, rfl, HSz2.out⟩
                        case round =>
                          obtain ⟨i, hi, rfl, hS⟩ := hrel
                          rename World => wy
                          by_cases hil : i < n3
                          · have hii : (i : Int) < (n3 : Int) := by omega
                            obtain ⟨b3, rfl, hcl⟩ := hS.cellR hkl Hrow.out (by omega)
                            obtain ⟨⟨v, hv⟩, hfz⟩ := hcl i hil
                            have HSn : Hid (∀ v, SG w3 L g gt gy gx bx0 #[.int .i64 x.op, .int .i64 x.n, .slice x.bq x.bl x.bc, .slice x.lq x.ll x.lc, .slice x.kq x.kl x.kc] pB x.bl (some ⟨b, o, none⟩) x.ll cG vs m8 t8 m8 t8 (World.setCell wy ⟨b3, i, none⟩ (.int .u8 v))) := fun v => hS.setR (op := x.op) rfl hkl Hrow.out (by omega) rfl i v
                            clear hS hcl
                            go_wp2_with fail
                            go_roundw
                            case rel => exact ⟨i + 1, by omega, by go_num, HSn.out _⟩
                            case measure => simp [intOf]; omega
                          · have hii : ¬ (i : Int) < (n3 : Int) := by omega
                            have HSe : Hid (SG w3 L g gt gy gx bx0 #[.int .i64 x.op, .int .i64 x.n, .slice x.bq x.bl x.bc, .slice x.lq x.ll x.lc, .slice x.kq x.kl x.kc] pB x.bl (some ⟨b, o, none⟩) x.ll cG vs m8 t8 m8 t8 wy) := hS
                            clear hS
                            go_wp2_with fail
                            go_roundw
                            case rel => exact ⟨k + 1, by omega, by go_num, HSe.out⟩
                            case measure => simp [intOf]; omega
                      · have hki : ¬ (k : Int) < (x.ll : Int) := by omega
                        have hSB := hS.sb
                        clear hS hk hkl
                        have HS9 : Hid (SB w3 L g gt gy gx bx0 #[.int .i64 x.op, .int .i64 x.n, .slice x.bq x.bl x.bc, .slice x.lq x.ll x.lc, .slice x.kq x.kl x.kc] pB x.bl (m8) (t8) (m8) (t8) wz) := hSB
                        have HD9 : Hid (Pd (m8) (100000 + 30000 * jj + 17000) ∧ Pt (t8) (500000 + (jj + 1)) ∧ Fz (m8)) := ⟨HP8.out.1, HP8.out.2.1, HP8.out.2.2⟩
                        obtain ⟨cd, Hcd⟩ : ∃ z, Hid (z = c8) := ⟨_, rfl⟩
                        obtain ⟨m9, Hm9⟩ : ∃ z, Hid (z = m8) := ⟨_, rfl⟩
                        obtain ⟨t9, Ht9⟩ : ∃ z, Hid (z = t8) := ⟨_, rfl⟩
                        rw [← Hm9.out, ← Ht9.out] at HS9
                        rw [← Hm9.out, ← Ht9.out] at HD9
                        (try rw [← Hcd.out])
                        go_wp2_with fail
                        go_loopw [163] (fun ix wq => ∃ (k : Nat), k ≤ x.bl ∧ ix = .int .i64 k ∧ SB w3 L g gt gy gx bx0 #[.int .i64 x.op, .int .i64 x.n, .slice x.bq x.bl x.bc, .slice x.lq x.ll x.lc, .slice x.kq x.kl x.kc] pB x.bl m9 t9 m9 t9 wq) (fun ix _ => x.bl - (intOf ix).toNat)
                        case atStart => exact ⟨0, Nat.zero_le _, rfl, HS9.out⟩
                        case round =>
                          obtain ⟨k, hk, rfl, hS⟩ := hrel
                          by_cases hkl : k < x.bl
                          · have hki : (k : Int) < (x.bl : Int) := by omega
                            have hbl : x.bl ≤ 16384 := HXL.out.2.2.1
                            obtain ⟨b, rfl, hcl⟩ := hS.cell (by omega)
                            obtain ⟨⟨v, hv⟩, hfz⟩ := hcl k hkl
                            have HSn : Hid (∀ v, SB w3 L g gt gy gx bx0 #[.int .i64 x.op, .int .i64 x.n, .slice x.bq x.bl x.bc, .slice x.lq x.ll x.lc, .slice x.kq x.kl x.kc] (some ⟨b, 0, none⟩) x.bl m9 t9 m9 t9 (World.setCell _ ⟨b, k, none⟩ (.int .u8 v))) := fun v => hS.setB (op := x.op) rfl (by omega) rfl k v
                            clear hS hcl
                            go_wp2_with fail
                            go_roundw
                            case rel => exact ⟨k + 1, by omega, by go_num, HSn.out _⟩
                            case measure => simp [intOf]; omega
                          · have hki : ¬ (k : Int) < (x.bl : Int) := by omega
                            obtain ⟨ow9, hP9, _⟩ := hS
                            rename World => wq
                            obtain ⟨_, hoff, hfr, _⟩ := hP9.on2
                            have HP9 : Hid (PB w3 wq L g gt gy gx ow9 m9 t9 m9 t9) := hP9
                            clear hP9
                            cases hdn : m9.down with
                            | false =>
                              rw [hdn] at hoff
                              have HI9 : Hid (LI w3 wq L g gy (jj + 1) (.pointer (some ⟨gt, 0, none⟩)) (.pointer (some ⟨gx, 0, none⟩))) := LI.mk0 HP9.out (HD9.out.1.mono (by omega)) HD9.out.2.1 hdn
                              have hTl := HI9.out.tells HSz.out.2.2
                              clear hfr hdn
                              go_wp2_with fail
                              refine hTl.mono ?_
                              rintro e5 w10 ⟨rfl, hb10⟩
                              clear hTl hoff
                              have HI10 := HI9.out.below hb10
                              have hFa := HI10.face HSz.out.2.2
                              have HI10 : Hid (LI w3 w10 L g gy (jj + 1) (.pointer (some ⟨gt, 0, none⟩)) (.pointer (some ⟨gx, 0, none⟩))) := HI10
                              clear hb10
                              go_wp2_with fail
                              refine hFa.mono ?_
                              rintro e6 w11 ⟨rfl, hb11⟩
                              clear hFa
                              have HI11 : Hid (LI w3 w11 L g gy (jj + 1) (.pointer (some ⟨gt, 0, none⟩)) (.pointer (some ⟨gx, 0, none⟩))) := HI10.out.below hb11
                              clear hb11
                              go_wp2_with fail
                              go_roundw
                              case rel => exact ⟨jj + 1, by omega, by go_num, HI11.out⟩
                              case measure => simp [intOf]; omega
                            | true =>
                              rw [hdn] at hoff
                              have HLf : Hid (m9.left = 0) := HD9.out.2.2 hdn
                              have hSt := HP9.out.start1 HD9.out.1.r0
                              clear hfr hdn
                              go_wp2_with fail
                              refine hSt.mono ?_
                              rintro e5 w10 ⟨rfl, ow10, hP10, _, _⟩
                              clear hSt hoff
                              obtain ⟨⟨u10, hu10⟩, _, hf10, hP11⟩ := hP10.on2
                              have HD2 : Hid (PD2 w3 (w10.setCell ⟨gy, 25, none⟩ (.bool false)) L g gy ow10 { m9 with down := false } { m9 with down := false }) := hP11.1.d
                              clear hP10 hP11
                              obtain ⟨m3, Hm3⟩ : ∃ z : PD, Hid (z = { m9 with down := false }) := ⟨_, rfl⟩
                              rw [← Hm3.out] at HD2
                              have HM3 : Hid (Pd m3 (100000 + 30000 * jj + 17000) ∧ m3.down = false ∧ m3.left = 0) := by rw [Hm3.out]; exact ⟨HD9.out.1.on, rfl, HLf.out⟩
                              have HFew : Hid (5 * (cnt m3).2.1.recs.length ≤ 100000 + 30000 * jj + 17000) := (open_pz HM3.out.1 (N := 500000) (by have := HJ.out; omega) (by have := HJ.out; omega)).2.2
                              have hO := HD2.out.open1 _ ⟨HM3.out.1.ok, HM3.out.2.1⟩ (by have := HJ.out; omega) HM3.out.1.by2 (by have := HFew.out; have := HJ.out; omega)
                              obtain ⟨cz2, Hcz2⟩ : ∃ z, Hid (z = (opM m3).1) := ⟨_, rfl⟩
                              rw [← Hcz2.out] at hO
                              go_wp2_with fail
                              refine hO.mono ?_
                              rintro e6 w11 ⟨gt2, ow11, rfl, hP11⟩
                              clear hO hu10 hf10
                              have hO := hP11.open2 _ HM3.out.1.ok (by have := HJ.out; omega) HM3.out.1.pre HM3.out.2.1 HM3.out.1.by2 (by have := HFew.out; have := HJ.out; omega)
                              rw [← Hcz2.out] at hO
                              clear hP11
                              go_wp2_with fail
                              refine hO.mono ?_
                              rintro e7 w12 ⟨gx2, ow12, rfl, hP12⟩
                              clear hO
                              have hI12 := LI.opened (j := jj + 1) hP12 HM3.out.1 (by omega) HSz.out.2.2 HM3.out.2.2 HM3.out.2.1
                              rw [← Hcz2.out] at hI12
                              obtain ⟨v9, Hv9⟩ : ∃ z, Hid (z = opT cz2 gt2) := ⟨_, rfl⟩
                              obtain ⟨v11, Hv11⟩ : ∃ z, Hid (z = opT cz2 gx2) := ⟨_, rfl⟩
                              rw [← Hv9.out, ← Hv11.out] at hI12 ⊢
                              have hTl := hI12.tells HSz.out.2.2
                              have HI12 : Hid (LI w3 w12 L g gy (jj + 1) v9 v11) := hI12
                              clear hP12 hI12
                              go_wp2_with fail
                              refine hTl.mono ?_
                              rintro e8 w13 ⟨rfl, hb13⟩
                              clear hTl
                              have hI13 := HI12.out.below hb13
                              have hFa := hI13.face HSz.out.2.2
                              have HI13 : Hid (LI w3 w13 L g gy (jj + 1) v9 v11) := hI13
                              clear hb13 hI13
                              go_wp2_with fail
                              refine hFa.mono ?_
                              rintro e9 w14 ⟨rfl, hb14⟩
                              clear hFa
                              have HI14 : Hid (LI w3 w14 L g gy (jj + 1) v9 v11) := HI13.out.below hb14
                              clear hb14
                              go_wp2_with fail
                              go_roundw
                              case rel => exact ⟨jj + 1, by omega, by go_num, HI14.out⟩
                              case measure => simp [intOf]; omega
            | false =>
              cases h6 : (bits BinOp.and IntKind.i64 x.op 7 == 6) with
              | true =>
                as_aux_lemma =>
                  have HRB : Hid (∀ W, Below L w3 W → Rd .u8 W x.bq x.bl x.bc x.b) := fun W h => HRD.out.b.below' (by rw [← HH.out]; exact HB3.out.trans (h.mono HHL.out))
                  have HRK : Hid (∀ W, Below L w3 W → Rd .i64 W x.kq x.kl x.kc x.keep) := fun W h => HRD.out.k.below' (by rw [← HH.out]; exact HB3.out.trans (h.mono HHL.out))
                  have HLK : Hid (∀ a, x.kq = some a → 0 < x.kl → a.block < L) := fun a ea h0 => Nat.lt_of_lt_of_le (HRD.out.k.ltb a ea h0) (by rw [← HH.out]; exact HHL.out)
                  go_wp2_with fail
                  rw [← Hbx0.out]
                  clear hx0
                  have hS8 : SB w3 L g gt gy gx bx0 #[.int .i64 x.op, .int .i64 x.n, .slice x.bq x.bl x.bc, .slice x.lq x.ll x.lc, .slice x.kq x.kl x.kc] pB x.bl mm tt mm tt wc.drew := SB.stays _ _ HSC.out (Below.refl _ _).drew
                  refine wp_region_dyn [0, 1, 2, 4, 5, 6] (fun W => At 44 W bx0 #[.int .i64 x.op, .int .i64 x.n, .slice x.bq x.bl x.bc, .slice x.lq x.ll x.lc, .slice x.kq x.kl x.kc] ∧ Below L w3 W) (SB w3 L g gt gy gx bx0 #[.int .i64 x.op, .int .i64 x.n, .slice x.bq x.bl x.bc, .slice x.lq x.ll x.lc, .slice x.kq x.kl x.kc] pB x.bl mm tt mm tt) (by kernel_rfl) hS8 ?_
                  clear hS8
                  refine wpDyn_take ?vP2x0 SB.stays (fun _ h => h.s0) (i := 0) rfl (by kernel_rfl) (by kernel_rfl) (by kernel_rfl) (by kernel_rfl) (by kernel_rfl) (fun _ _ _ h => h) (Gives.value (by rfl) ?yP2x0) ?rP2x0
                  case yP2x0 => (intro w' hSw; clear hSw; go_simp; try with_reducible rfl)
                  (try simp only [Act.put, List.getElem_toArray, List.getElem_cons_zero, List.getElem_cons_succ, List.setIfInBounds_toArray, List.set_cons_zero, List.set_cons_succ])
                  refine wpDyn_take ?vP2x1 SB.stays (fun _ h => h.s0) (i := 1) rfl (by kernel_rfl) (by kernel_rfl) (by kernel_rfl) (by kernel_rfl) (by kernel_rfl) (fun _ _ _ h => h) (Gives.value (by rfl) ?yP2x1) ?rP2x1
                  case yP2x1 => (intro w' hSw; clear hSw; go_simp; try with_reducible rfl)
                  (try simp only [Act.put, List.getElem_toArray, List.getElem_cons_zero, List.getElem_cons_succ, List.setIfInBounds_toArray, List.set_cons_zero, List.set_cons_succ])
                  refine wpDyn_take ?vP2x2 SB.stays (fun _ h => h.s0) (i := 2) rfl (by kernel_rfl) (by kernel_rfl) (by kernel_rfl) (by kernel_rfl) (by kernel_rfl) (fun _ _ _ h => h) (Gives.value (by rfl) ?yP2x2) ?rP2x2
                  case yP2x2 => (intro w' hSw; have hcl := hSw.1.cell 4; clear hSw; go_simp; try with_reducible rfl)
                  (try simp only [Act.put, List.getElem_toArray, List.getElem_cons_zero, List.getElem_cons_succ, List.setIfInBounds_toArray, List.set_cons_zero, List.set_cons_succ])
                  refine wpDyn_take ?vP2x4 SB.stays (fun _ h => h.s0) (i := 4) rfl (by kernel_rfl) (by kernel_rfl) (by kernel_rfl) (by kernel_rfl) (by kernel_rfl) (fun _ _ _ h => h) (Gives.value (by rfl) ?yP2x4) ?rP2x4
                  case yP2x4 => (intro w' hSw; clear hSw; go_simp; try with_reducible rfl)
                  (try simp only [Act.put, List.getElem_toArray, List.getElem_cons_zero, List.getElem_cons_succ, List.setIfInBounds_toArray, List.set_cons_zero, List.set_cons_succ])
                  refine wpDyn_take ?vP2x5 SB.stays (fun _ h => h.s0) (i := 5) rfl (by kernel_rfl) (by kernel_rfl) (by kernel_rfl) (by kernel_rfl) (by kernel_rfl) (fun _ _ _ h => h) (Gives.value (by rfl) ?yP2x5) ?rP2x5
                  case yP2x5 => (intro w' hSw; clear hSw; go_simp; try with_reducible rfl)
                  (try simp only [Act.put, List.getElem_toArray, List.getElem_cons_zero, List.getElem_cons_succ, List.setIfInBounds_toArray, List.set_cons_zero, List.set_cons_succ])
                  refine wpDyn_take ?vP2x6 SB.stays (fun _ h => h.s0) (i := 6) rfl (by kernel_rfl) (by kernel_rfl) (by kernel_rfl) (by kernel_rfl) (by kernel_rfl) (fun _ _ _ h => h) (Gives.value (by rfl) ?yP2x6) ?rP2x6
                  case yP2x6 => (intro w' hSw; have hcl := hSw.1.cell 4; clear hSw; go_simp; try with_reducible rfl)
                  (try simp only [Act.put, List.getElem_toArray, List.getElem_cons_zero, List.getElem_cons_succ, List.setIfInBounds_toArray, List.set_cons_zero, List.set_cons_succ])
                  refine wpDyn_ready (rs := [3]) (by kernel_rfl) (by simp) (AllDyn.cons rfl (fun V hV K hK => ?_) AllDyn.nil)
                  rw [if_pos (by rfl)]
                  obtain ⟨ow2, hP2, hA2, ho2, hn1, hn2, hL2⟩ := hV
                  have hC := hP2.crash1 HD.out.1 HJ.out.1 HD.out.2.2 x.kq x.kl x.kc x.keep (HRK.out V hP2.bel) HLK.out HXL.out.2.2.2.2
                  refine wp_enterX 17 #[.pointer (some ⟨g, 0, none⟩), .slice x.kq x.kl x.kc] (by first | (go_simp; done) | (go_simp; rfl)) (fun v V' => v = .int .i64 0 ∧ SB w3 L g gt gy gx bx0 #[.int .i64 x.op, .int .i64 x.n, .slice x.bq x.bl x.bc, .slice x.lq x.ll x.lc, .slice x.kq x.kl x.kc] pB x.bl (mm.fall x.keep) (tt) mm tt V') (hC.mono fun e V' ⟨h1, h2⟩ => ⟨_, h1, rfl, SB.p1 hP2 hA2 ho2 hn1 hn2 hL2 h2⟩) ?_
                  rintro v V1 ⟨rfl, hS1⟩
                  refine hK.out (SB w3 L g gt gy gx bx0 #[.int .i64 x.op, .int .i64 x.n, .slice x.bq x.bl x.bc, .slice x.lq x.ll x.lc, .slice x.kq x.kl x.kc] pB x.bl (mm.fall x.keep) (tt) mm tt) _ _ SB.stays (fun _ _ h => h.s0) hS1 ?_
                  clear hK K hC hS1 hP2 hA2 ho2 hn1 hn2 hL2; try clear hV
                  (try simp only [Act.put, List.getElem_toArray, List.getElem_cons_zero, List.getElem_cons_succ, List.setIfInBounds_toArray, List.set_cons_zero, List.set_cons_succ])
                  refine wpDyn_ready (rs := [7]) (by kernel_rfl) (by simp) (AllDyn.cons rfl (fun V hV K hK => ?_) AllDyn.nil)
                  rw [if_pos (by rfl)]
                  obtain ⟨ow2, hP2, hA2, ho2, hn1, hn2, hL2⟩ := hV
                  have hC := hP2.crash2 HD.out.1 HJ.out.1 HD.out.2.2 x.kq x.kl x.kc x.keep (HRK.out V hP2.bel) HLK.out HXL.out.2.2.2.2
                  refine wp_enterX 18 #[.pointer (some ⟨gy, 0, none⟩), .slice x.kq x.kl x.kc] (by first | (go_simp; done) | (go_simp; rfl)) (fun v V' => v = .int .i64 0 ∧ SB w3 L g gt gy gx bx0 #[.int .i64 x.op, .int .i64 x.n, .slice x.bq x.bl x.bc, .slice x.lq x.ll x.lc, .slice x.kq x.kl x.kc] pB x.bl (mm.fall x.keep) (tt) (mm.fall x.keep) (tt) V') (hC.mono fun e V' ⟨h1, h2⟩ => ⟨_, h1, rfl, SB.p2 hA2 ho2 hn1 hn2 hL2 h2⟩) ?_
                  rintro v V1 ⟨rfl, hS1⟩
                  refine hK.out (SB w3 L g gt gy gx bx0 #[.int .i64 x.op, .int .i64 x.n, .slice x.bq x.bl x.bc, .slice x.lq x.ll x.lc, .slice x.kq x.kl x.kc] pB x.bl (mm.fall x.keep) (tt) (mm.fall x.keep) (tt)) _ _ SB.stays (fun _ _ h => h.s0) hS1 ?_
                  clear hK K hC hS1 hP2 hA2 ho2 hn1 hn2 hL2; try clear hV
                  (try simp only [Act.put, List.getElem_toArray, List.getElem_cons_zero, List.getElem_cons_succ, List.setIfInBounds_toArray, List.set_cons_zero, List.set_cons_succ])
                  refine wpDyn_ready (rs := [8]) (by kernel_rfl) (by simp) (AllDyn.cons rfl (fun V hV K hK => ?_) AllDyn.nil)
                  rw [if_pos (by rfl)]
                  refine wp_value (.int .i64 0) V (by first | (go_simp; done) | (go_simp; rfl)) ?_
                  refine hK.out (SB w3 L g gt gy gx bx0 #[.int .i64 x.op, .int .i64 x.n, .slice x.bq x.bl x.bc, .slice x.lq x.ll x.lc, .slice x.kq x.kl x.kc] pB x.bl (mm.fall x.keep) (tt) (mm.fall x.keep) (tt)) _ _ SB.stays (fun _ _ h => h.s0) hV ?_
                  clear hK K hV
                  (try simp only [Act.put, List.getElem_toArray, List.getElem_cons_zero, List.getElem_cons_succ, List.setIfInBounds_toArray, List.set_cons_zero, List.set_cons_succ])
                  refine wpDyn_ready (rs := [9]) (by kernel_rfl) (by simp) (AllDyn.cons rfl (fun V hV K hK => ?_) AllDyn.nil)
                  rw [if_pos (by rfl)]
                  refine wp_value (.int .i64 0) V (by first | (go_simp; done) | (go_simp; rfl)) ?_
                  refine hK.out (SB w3 L g gt gy gx bx0 #[.int .i64 x.op, .int .i64 x.n, .slice x.bq x.bl x.bc, .slice x.lq x.ll x.lc, .slice x.kq x.kl x.kc] pB x.bl (mm.fall x.keep) (tt) (mm.fall x.keep) (tt)) _ _ SB.stays (fun _ _ h => h.s0) hV ?_
                  clear hK K hV
                  (try simp only [Act.put, List.getElem_toArray, List.getElem_cons_zero, List.getElem_cons_succ, List.setIfInBounds_toArray, List.set_cons_zero, List.set_cons_succ])
                  refine wpDyn_done (by kernel_rfl) (fun W2 hW2 => ?_) _
                  have HS9 : Hid (SB w3 L g gt gy gx bx0 #[.int .i64 x.op, .int .i64 x.n, .slice x.bq x.bl x.bc, .slice x.lq x.ll x.lc, .slice x.kq x.kl x.kc] pB x.bl (mm.fall x.keep) (tt) (mm.fall x.keep) (tt) W2) := hW2
                  have HD9 : Hid (Pd (mm.fall x.keep) (100000 + 30000 * jj + 17000) ∧ Pt (tt) (500000 + (jj + 1)) ∧ Fz (mm.fall x.keep)) := ⟨(HD.out.1.fall _).mono (by omega), HD.out.2.1.mono (by omega), fun _ => rfl⟩
                  skip
                  obtain ⟨m9, Hm9⟩ : ∃ z, Hid (z = mm.fall x.keep) := ⟨_, rfl⟩
                  obtain ⟨t9, Ht9⟩ : ∃ z, Hid (z = tt) := ⟨_, rfl⟩
                  rw [← Hm9.out, ← Ht9.out] at HS9
                  rw [← Hm9.out, ← Ht9.out] at HD9
                  skip
                  go_wp2_with fail
                  go_loopw [163] (fun ix wq => ∃ (k : Nat), k ≤ x.bl ∧ ix = .int .i64 k ∧ SB w3 L g gt gy gx bx0 #[.int .i64 x.op, .int .i64 x.n, .slice x.bq x.bl x.bc, .slice x.lq x.ll x.lc, .slice x.kq x.kl x.kc] pB x.bl m9 t9 m9 t9 wq) (fun ix _ => x.bl - (intOf ix).toNat)
                  case atStart => exact ⟨0, Nat.zero_le _, rfl, HS9.out⟩
                  case round =>
                    obtain ⟨k, hk, rfl, hS⟩ := hrel
                    by_cases hkl : k < x.bl
                    · have hki : (k : Int) < (x.bl : Int) := by omega
                      have hbl : x.bl ≤ 16384 := HXL.out.2.2.1
                      obtain ⟨b, rfl, hcl⟩ := hS.cell (by omega)
                      obtain ⟨⟨v, hv⟩, hfz⟩ := hcl k hkl
                      have HSn : Hid (∀ v, SB w3 L g gt gy gx bx0 #[.int .i64 x.op, .int .i64 x.n, .slice x.bq x.bl x.bc, .slice x.lq x.ll x.lc, .slice x.kq x.kl x.kc] (some ⟨b, 0, none⟩) x.bl m9 t9 m9 t9 (World.setCell _ ⟨b, k, none⟩ (.int .u8 v))) := fun v => hS.setB (op := x.op) rfl (by omega) rfl k v
                      clear hS hcl
                      go_wp2_with fail
                      go_roundw
                      case rel => exact ⟨k + 1, by omega, by go_num, HSn.out _⟩
                      case measure => simp [intOf]; omega
                    · have hki : ¬ (k : Int) < (x.bl : Int) := by omega
                      obtain ⟨ow9, hP9, _⟩ := hS
                      rename World => wq
                      obtain ⟨_, hoff, hfr, _⟩ := hP9.on2
                      have HP9 : Hid (PB w3 wq L g gt gy gx ow9 m9 t9 m9 t9) := hP9
                      clear hP9
                      cases hdn : m9.down with
                      | false =>
                        rw [hdn] at hoff
                        have HI9 : Hid (LI w3 wq L g gy (jj + 1) (.pointer (some ⟨gt, 0, none⟩)) (.pointer (some ⟨gx, 0, none⟩))) := LI.mk0 HP9.out (HD9.out.1.mono (by omega)) HD9.out.2.1 hdn
                        have hTl := HI9.out.tells HSz.out.2.2
                        clear hfr hdn
                        go_wp2_with fail
                        refine hTl.mono ?_
                        rintro e5 w10 ⟨rfl, hb10⟩
                        clear hTl hoff
                        have HI10 := HI9.out.below hb10
                        have hFa := HI10.face HSz.out.2.2
                        have HI10 : Hid (LI w3 w10 L g gy (jj + 1) (.pointer (some ⟨gt, 0, none⟩)) (.pointer (some ⟨gx, 0, none⟩))) := HI10
                        clear hb10
                        go_wp2_with fail
                        refine hFa.mono ?_
                        rintro e6 w11 ⟨rfl, hb11⟩
                        clear hFa
                        have HI11 : Hid (LI w3 w11 L g gy (jj + 1) (.pointer (some ⟨gt, 0, none⟩)) (.pointer (some ⟨gx, 0, none⟩))) := HI10.out.below hb11
                        clear hb11
                        go_wp2_with fail
                        go_roundw
                        case rel => exact ⟨jj + 1, by omega, by go_num, HI11.out⟩
                        case measure => simp [intOf]; omega
                      | true =>
                        rw [hdn] at hoff
                        have HLf : Hid (m9.left = 0) := HD9.out.2.2 hdn
                        have hSt := HP9.out.start1 HD9.out.1.r0
                        clear hfr hdn
                        go_wp2_with fail
                        refine hSt.mono ?_
                        rintro e5 w10 ⟨rfl, ow10, hP10, _, _⟩
                        clear hSt hoff
                        obtain ⟨⟨u10, hu10⟩, _, hf10, hP11⟩ := hP10.on2
                        have HD2 : Hid (PD2 w3 (w10.setCell ⟨gy, 25, none⟩ (.bool false)) L g gy ow10 { m9 with down := false } { m9 with down := false }) := hP11.1.d
                        clear hP10 hP11
                        obtain ⟨m3, Hm3⟩ : ∃ z : PD, Hid (z = { m9 with down := false }) := ⟨_, rfl⟩
                        rw [← Hm3.out] at HD2
                        have HM3 : Hid (Pd m3 (100000 + 30000 * jj + 17000) ∧ m3.down = false ∧ m3.left = 0) := by rw [Hm3.out]; exact ⟨HD9.out.1.on, rfl, HLf.out⟩
                        have HFew : Hid (5 * (cnt m3).2.1.recs.length ≤ 100000 + 30000 * jj + 17000) := (open_pz HM3.out.1 (N := 500000) (by have := HJ.out; omega) (by have := HJ.out; omega)).2.2
                        have hO := HD2.out.open1 _ ⟨HM3.out.1.ok, HM3.out.2.1⟩ (by have := HJ.out; omega) HM3.out.1.by2 (by have := HFew.out; have := HJ.out; omega)
                        obtain ⟨cz2, Hcz2⟩ : ∃ z, Hid (z = (opM m3).1) := ⟨_, rfl⟩
                        rw [← Hcz2.out] at hO
                        go_wp2_with fail
                        refine hO.mono ?_
                        rintro e6 w11 ⟨gt2, ow11, rfl, hP11⟩
                        clear hO hu10 hf10
                        have hO := hP11.open2 _ HM3.out.1.ok (by have := HJ.out; omega) HM3.out.1.pre HM3.out.2.1 HM3.out.1.by2 (by have := HFew.out; have := HJ.out; omega)
                        rw [← Hcz2.out] at hO
                        clear hP11
                        go_wp2_with fail
                        refine hO.mono ?_
                        rintro e7 w12 ⟨gx2, ow12, rfl, hP12⟩
                        clear hO
                        have hI12 := LI.opened (j := jj + 1) hP12 HM3.out.1 (by omega) HSz.out.2.2 HM3.out.2.2 HM3.out.2.1
                        rw [← Hcz2.out] at hI12
                        obtain ⟨v9, Hv9⟩ : ∃ z, Hid (z = opT cz2 gt2) := ⟨_, rfl⟩
                        obtain ⟨v11, Hv11⟩ : ∃ z, Hid (z = opT cz2 gx2) := ⟨_, rfl⟩
                        rw [← Hv9.out, ← Hv11.out] at hI12 ⊢
                        have hTl := hI12.tells HSz.out.2.2
                        have HI12 : Hid (LI w3 w12 L g gy (jj + 1) v9 v11) := hI12
                        clear hP12 hI12
                        go_wp2_with fail
                        refine hTl.mono ?_
                        rintro e8 w13 ⟨rfl, hb13⟩
                        clear hTl
                        have hI13 := HI12.out.below hb13
                        have hFa := hI13.face HSz.out.2.2
                        have HI13 : Hid (LI w3 w13 L g gy (jj + 1) v9 v11) := hI13
                        clear hb13 hI13
                        go_wp2_with fail
                        refine hFa.mono ?_
                        rintro e9 w14 ⟨rfl, hb14⟩
                        clear hFa
                        have HI14 : Hid (LI w3 w14 L g gy (jj + 1) v9 v11) := HI13.out.below hb14
                        clear hb14
                        go_wp2_with fail
                        go_roundw
                        case rel => exact ⟨jj + 1, by omega, by go_num, HI14.out⟩
                        case measure => simp [intOf]; omega
              | false =>
                cases h7 : (bits BinOp.and IntKind.i64 x.op 7 == 7) with
                | true =>
                  as_aux_lemma =>
                    have HRB : Hid (∀ W, Below L w3 W → Rd .u8 W x.bq x.bl x.bc x.b) := fun W h => HRD.out.b.below' (by rw [← HH.out]; exact HB3.out.trans (h.mono HHL.out))
                    have HRK : Hid (∀ W, Below L w3 W → Rd .i64 W x.kq x.kl x.kc x.keep) := fun W h => HRD.out.k.below' (by rw [← HH.out]; exact HB3.out.trans (h.mono HHL.out))
                    have HLK : Hid (∀ a, x.kq = some a → 0 < x.kl → a.block < L) := fun a ea h0 => Nat.lt_of_lt_of_le (HRD.out.k.ltb a ea h0) (by rw [← HH.out]; exact HHL.out)
                    go_wp2_with fail
                    rw [← Hbx0.out]
                    clear hx0
                    by_cases hn1 : x.n < 1
                    · skip
                      have Hn1 : Hid (x.n < 1) := hn1
                      clear hn1
                      have hS8 : SB w3 L g gt gy gx bx0 #[.int .i64 x.op, .int .i64 x.n, .slice x.bq x.bl x.bc, .slice x.lq x.ll x.lc, .slice x.kq x.kl x.kc] pB x.bl mm tt mm tt wc.drew := SB.stays _ _ HSC.out (Below.refl _ _).drew
                      refine wp_region_dyn [0, 1, 2, 3, 4, 6, 7, 8, 9, 10] (fun W => At 44 W bx0 #[.int .i64 x.op, .int .i64 x.n, .slice x.bq x.bl x.bc, .slice x.lq x.ll x.lc, .slice x.kq x.kl x.kc] ∧ Below L w3 W) (SB w3 L g gt gy gx bx0 #[.int .i64 x.op, .int .i64 x.n, .slice x.bq x.bl x.bc, .slice x.lq x.ll x.lc, .slice x.kq x.kl x.kc] pB x.bl mm tt mm tt) (by kernel_rfl) hS8 ?_
                      clear hS8
                      refine wpDyn_take ?vP3x0 SB.stays (fun _ h => h.s0) (i := 0) rfl (by kernel_rfl) (by kernel_rfl) (by kernel_rfl) (by kernel_rfl) (by kernel_rfl) (fun _ _ _ h => h) (Gives.value (by rfl) ?yP3x0) ?rP3x0
                      case yP3x0 => (intro w' hSw; clear hSw; go_simp; try with_reducible rfl)
                      (try simp only [Act.put, List.getElem_toArray, List.getElem_cons_zero, List.getElem_cons_succ, List.setIfInBounds_toArray, List.set_cons_zero, List.set_cons_succ])
                      refine wpDyn_take ?vP3x1 SB.stays (fun _ h => h.s0) (i := 1) rfl (by kernel_rfl) (by kernel_rfl) (by kernel_rfl) (by kernel_rfl) (by kernel_rfl) (fun _ _ _ h => h) (Gives.value (by rfl) ?yP3x1) ?rP3x1
                      case yP3x1 => (intro w' hSw; clear hSw; go_simp; try with_reducible rfl)
                      (try simp only [Act.put, List.getElem_toArray, List.getElem_cons_zero, List.getElem_cons_succ, List.setIfInBounds_toArray, List.set_cons_zero, List.set_cons_succ])
                      refine wpDyn_take ?vP3x2 SB.stays (fun _ h => h.s0) (i := 2) rfl (by kernel_rfl) (by kernel_rfl) (by kernel_rfl) (by kernel_rfl) (by kernel_rfl) (fun _ _ _ h => h) (Gives.value (by rfl) ?yP3x2) ?rP3x2
                      case yP3x2 => (intro w' hSw; have hcl := hSw.1.cell 1; clear hSw; go_simp; try with_reducible rfl)
                      (try simp only [Act.put, List.getElem_toArray, List.getElem_cons_zero, List.getElem_cons_succ, List.setIfInBounds_toArray, List.set_cons_zero, List.set_cons_succ])
                      refine wpDyn_take ?vP3x3 SB.stays (fun _ h => h.s0) (i := 3) rfl (by kernel_rfl) (by kernel_rfl) (by kernel_rfl) (by kernel_rfl) (by kernel_rfl) (fun _ _ _ h => h) (Gives.value (by rfl) ?yP3x3) ?rP3x3
                      case yP3x3 => (intro w' hSw; clear hSw; go_simp; try with_reducible rfl)
                      (try simp only [Act.put, List.getElem_toArray, List.getElem_cons_zero, List.getElem_cons_succ, List.setIfInBounds_toArray, List.set_cons_zero, List.set_cons_succ])
                      refine wpDyn_take ?vP3x4 SB.stays (fun _ h => h.s0) (i := 4) rfl (by kernel_rfl) (by kernel_rfl) (by kernel_rfl) (by kernel_rfl) (by kernel_rfl) (fun _ _ _ h => h) (Gives.value (by rfl) ?yP3x4) ?rP3x4
                      case yP3x4 => (intro w' hSw; have hcl := hSw.1.cell 4; clear hSw; go_simp; try with_reducible rfl)
                      (try simp only [Act.put, List.getElem_toArray, List.getElem_cons_zero, List.getElem_cons_succ, List.setIfInBounds_toArray, List.set_cons_zero, List.set_cons_succ])
                      refine wpDyn_take ?vP3x6 SB.stays (fun _ h => h.s0) (i := 6) rfl (by kernel_rfl) (by kernel_rfl) (by kernel_rfl) (by kernel_rfl) (by kernel_rfl) (fun _ _ _ h => h) (Gives.value (by rfl) ?yP3x6) ?rP3x6
                      case yP3x6 => (intro w' hSw; clear hSw; go_simp; try with_reducible rfl)
                      (try simp only [Act.put, List.getElem_toArray, List.getElem_cons_zero, List.getElem_cons_succ, List.setIfInBounds_toArray, List.set_cons_zero, List.set_cons_succ])
                      refine wpDyn_take ?vP3x7 SB.stays (fun _ h => h.s0) (i := 7) rfl (by kernel_rfl) (by kernel_rfl) (by kernel_rfl) (by kernel_rfl) (by kernel_rfl) (fun _ _ _ h => h) (Gives.value (by rfl) ?yP3x7) ?rP3x7
                      case yP3x7 => (intro w' hSw; clear hSw; go_simp; try with_reducible rfl)
                      (try simp only [Act.put, List.getElem_toArray, List.getElem_cons_zero, List.getElem_cons_succ, List.setIfInBounds_toArray, List.set_cons_zero, List.set_cons_succ])
                      refine wpDyn_take ?vP3x8 SB.stays (fun _ h => h.s0) (i := 8) rfl (by kernel_rfl) (by kernel_rfl) (by kernel_rfl) (by kernel_rfl) (by kernel_rfl) (fun _ _ _ h => h) (Gives.value (by rfl) ?yP3x8) ?rP3x8
                      case yP3x8 => (intro w' hSw; have hcl := hSw.1.cell 1; clear hSw; go_simp; try with_reducible rfl)
                      (try simp only [Act.put, List.getElem_toArray, List.getElem_cons_zero, List.getElem_cons_succ, List.setIfInBounds_toArray, List.set_cons_zero, List.set_cons_succ])
                      refine wpDyn_take ?vP3x9 SB.stays (fun _ h => h.s0) (i := 9) rfl (by kernel_rfl) (by kernel_rfl) (by kernel_rfl) (by kernel_rfl) (by kernel_rfl) (fun _ _ _ h => h) (Gives.value (by rfl) ?yP3x9) ?rP3x9
                      case yP3x9 => (intro w' hSw; clear hSw; go_simp; try with_reducible rfl)
                      (try simp only [Act.put, List.getElem_toArray, List.getElem_cons_zero, List.getElem_cons_succ, List.setIfInBounds_toArray, List.set_cons_zero, List.set_cons_succ])
                      refine wpDyn_take ?vP3x10 SB.stays (fun _ h => h.s0) (i := 10) rfl (by kernel_rfl) (by kernel_rfl) (by kernel_rfl) (by kernel_rfl) (by kernel_rfl) (fun _ _ _ h => h) (Gives.value (by rfl) ?yP3x10) ?rP3x10
                      case yP3x10 => (intro w' hSw; have hcl := hSw.1.cell 4; clear hSw; go_simp; try with_reducible rfl)
                      (try simp only [Act.put, List.getElem_toArray, List.getElem_cons_zero, List.getElem_cons_succ, List.setIfInBounds_toArray, List.set_cons_zero, List.set_cons_succ])
                      refine wpDyn_ready (rs := [5]) (by kernel_rfl) (by simp) (AllDyn.cons rfl (fun V hV K hK => ?_) AllDyn.nil)
                      rw [if_pos (by rfl)]
                      obtain ⟨ow2, hP2, hA2, ho2, hn1, hn2, hL2⟩ := hV
                      have hC := hP2.arm1_low HD.out.1.r0 HD.out.2.2 x.n Hn1.out x.kq x.kl x.kc
                      refine wp_enterX 19 #[.pointer (some ⟨g, 0, none⟩), .int .i64 x.n, .slice x.kq x.kl x.kc] (by first | (go_simp; done) | (go_simp; rfl)) (fun v V' => v = .int .i64 1 ∧ SB w3 L g gt gy gx bx0 #[.int .i64 x.op, .int .i64 x.n, .slice x.bq x.bl x.bc, .slice x.lq x.ll x.lc, .slice x.kq x.kl x.kc] pB x.bl (mm) (tt) mm tt V') (hC.mono fun e V' ⟨h1, h2⟩ => ⟨_, h1, rfl, (by rw [h2]; exact ⟨ow2, hP2, hA2, ho2, hn1, hn2, hL2⟩)⟩) ?_
                      rintro v V1 ⟨rfl, hS1⟩
                      refine hK.out (SB w3 L g gt gy gx bx0 #[.int .i64 x.op, .int .i64 x.n, .slice x.bq x.bl x.bc, .slice x.lq x.ll x.lc, .slice x.kq x.kl x.kc] pB x.bl (mm) (tt) mm tt) _ _ SB.stays (fun _ _ h => h.s0) hS1 ?_
                      clear hK K hC hS1 hP2 hA2 ho2 hn1 hn2 hL2; try clear hV
                      (try simp only [Act.put, List.getElem_toArray, List.getElem_cons_zero, List.getElem_cons_succ, List.setIfInBounds_toArray, List.set_cons_zero, List.set_cons_succ])
                      refine wpDyn_ready (rs := [11]) (by kernel_rfl) (by simp) (AllDyn.cons rfl (fun V hV K hK => ?_) AllDyn.nil)
                      rw [if_pos (by rfl)]
                      obtain ⟨ow2, hP2, hA2, ho2, hn1, hn2, hL2⟩ := hV
                      have hC := hP2.arm2_low HD.out.2.2 x.n Hn1.out x.kq x.kl x.kc
                      refine wp_enterX 20 #[.pointer (some ⟨gy, 0, none⟩), .int .i64 x.n, .slice x.kq x.kl x.kc] (by first | (go_simp; done) | (go_simp; rfl)) (fun v V' => v = .int .i64 1 ∧ SB w3 L g gt gy gx bx0 #[.int .i64 x.op, .int .i64 x.n, .slice x.bq x.bl x.bc, .slice x.lq x.ll x.lc, .slice x.kq x.kl x.kc] pB x.bl (mm) (tt) (mm) (tt) V') (hC.mono fun e V' ⟨h1, h2⟩ => ⟨_, h1, rfl, (by rw [h2]; exact ⟨ow2, hP2, hA2, ho2, hn1, hn2, hL2⟩)⟩) ?_
                      rintro v V1 ⟨rfl, hS1⟩
                      refine hK.out (SB w3 L g gt gy gx bx0 #[.int .i64 x.op, .int .i64 x.n, .slice x.bq x.bl x.bc, .slice x.lq x.ll x.lc, .slice x.kq x.kl x.kc] pB x.bl (mm) (tt) (mm) (tt)) _ _ SB.stays (fun _ _ h => h.s0) hS1 ?_
                      clear hK K hC hS1 hP2 hA2 ho2 hn1 hn2 hL2; try clear hV
                      (try simp only [Act.put, List.getElem_toArray, List.getElem_cons_zero, List.getElem_cons_succ, List.setIfInBounds_toArray, List.set_cons_zero, List.set_cons_succ])
                      refine wpDyn_ready (rs := [12]) (by kernel_rfl) (by simp) (AllDyn.cons rfl (fun V hV K hK => ?_) AllDyn.nil)
                      rw [if_pos (by rfl)]
                      refine wp_value (.int .i64 1) V (by first | (go_simp; done) | (go_simp; rfl)) ?_
                      refine hK.out (SB w3 L g gt gy gx bx0 #[.int .i64 x.op, .int .i64 x.n, .slice x.bq x.bl x.bc, .slice x.lq x.ll x.lc, .slice x.kq x.kl x.kc] pB x.bl (mm) (tt) (mm) (tt)) _ _ SB.stays (fun _ _ h => h.s0) hV ?_
                      clear hK K hV
                      (try simp only [Act.put, List.getElem_toArray, List.getElem_cons_zero, List.getElem_cons_succ, List.setIfInBounds_toArray, List.set_cons_zero, List.set_cons_succ])
                      refine wpDyn_ready (rs := [13]) (by kernel_rfl) (by simp) (AllDyn.cons rfl (fun V hV K hK => ?_) AllDyn.nil)
                      rw [if_pos (by rfl)]
                      refine wp_value (.int .i64 1) V (by first | (go_simp; done) | (go_simp; rfl)) ?_
                      refine hK.out (SB w3 L g gt gy gx bx0 #[.int .i64 x.op, .int .i64 x.n, .slice x.bq x.bl x.bc, .slice x.lq x.ll x.lc, .slice x.kq x.kl x.kc] pB x.bl (mm) (tt) (mm) (tt)) _ _ SB.stays (fun _ _ h => h.s0) hV ?_
                      clear hK K hV
                      (try simp only [Act.put, List.getElem_toArray, List.getElem_cons_zero, List.getElem_cons_succ, List.setIfInBounds_toArray, List.set_cons_zero, List.set_cons_succ])
                      refine wpDyn_done (by kernel_rfl) (fun W2 hW2 => ?_) _
                      have HS9 : Hid (SB w3 L g gt gy gx bx0 #[.int .i64 x.op, .int .i64 x.n, .slice x.bq x.bl x.bc, .slice x.lq x.ll x.lc, .slice x.kq x.kl x.kc] pB x.bl (mm) (tt) (mm) (tt) W2) := hW2
                      have HD9 : Hid (Pd (mm) (100000 + 30000 * jj + 17000) ∧ Pt (tt) (500000 + (jj + 1)) ∧ Fz (mm)) := ⟨HD.out.1.mono (by omega), HD.out.2.1.mono (by omega), (fun e => by rw [HD.out.2.2] at e; cases e)⟩
                      skip
                      obtain ⟨m9, Hm9⟩ : ∃ z, Hid (z = mm) := ⟨_, rfl⟩
                      obtain ⟨t9, Ht9⟩ : ∃ z, Hid (z = tt) := ⟨_, rfl⟩
                      rw [← Hm9.out, ← Ht9.out] at HS9
                      rw [← Hm9.out, ← Ht9.out] at HD9
                      skip
                      go_wp2_with fail
                      go_loopw [163] (fun ix wq => ∃ (k : Nat), k ≤ x.bl ∧ ix = .int .i64 k ∧ SB w3 L g gt gy gx bx0 #[.int .i64 x.op, .int .i64 x.n, .slice x.bq x.bl x.bc, .slice x.lq x.ll x.lc, .slice x.kq x.kl x.kc] pB x.bl m9 t9 m9 t9 wq) (fun ix _ => x.bl - (intOf ix).toNat)
                      case atStart => exact ⟨0, Nat.zero_le _, rfl, HS9.out⟩
                      case round =>
                        obtain ⟨k, hk, rfl, hS⟩ := hrel
                        by_cases hkl : k < x.bl
                        · have hki : (k : Int) < (x.bl : Int) := by omega
                          have hbl : x.bl ≤ 16384 := HXL.out.2.2.1
                          obtain ⟨b, rfl, hcl⟩ := hS.cell (by omega)
                          obtain ⟨⟨v, hv⟩, hfz⟩ := hcl k hkl
                          have HSn : Hid (∀ v, SB w3 L g gt gy gx bx0 #[.int .i64 x.op, .int .i64 x.n, .slice x.bq x.bl x.bc, .slice x.lq x.ll x.lc, .slice x.kq x.kl x.kc] (some ⟨b, 0, none⟩) x.bl m9 t9 m9 t9 (World.setCell _ ⟨b, k, none⟩ (.int .u8 v))) := fun v => hS.setB (op := x.op) rfl (by omega) rfl k v
                          clear hS hcl
                          go_wp2_with fail
                          go_roundw
                          case rel => exact ⟨k + 1, by omega, by go_num, HSn.out _⟩
                          case measure => simp [intOf]; omega
                        · have hki : ¬ (k : Int) < (x.bl : Int) := by omega
                          obtain ⟨ow9, hP9, _⟩ := hS
                          rename World => wq
                          obtain ⟨_, hoff, hfr, _⟩ := hP9.on2
                          have HP9 : Hid (PB w3 wq L g gt gy gx ow9 m9 t9 m9 t9) := hP9
                          clear hP9
                          cases hdn : m9.down with
                          | false =>
                            rw [hdn] at hoff
                            have HI9 : Hid (LI w3 wq L g gy (jj + 1) (.pointer (some ⟨gt, 0, none⟩)) (.pointer (some ⟨gx, 0, none⟩))) := LI.mk0 HP9.out (HD9.out.1.mono (by omega)) HD9.out.2.1 hdn
                            have hTl := HI9.out.tells HSz.out.2.2
                            clear hfr hdn
                            go_wp2_with fail
                            refine hTl.mono ?_
                            rintro e5 w10 ⟨rfl, hb10⟩
                            clear hTl hoff
                            have HI10 := HI9.out.below hb10
                            have hFa := HI10.face HSz.out.2.2
                            have HI10 : Hid (LI w3 w10 L g gy (jj + 1) (.pointer (some ⟨gt, 0, none⟩)) (.pointer (some ⟨gx, 0, none⟩))) := HI10
                            clear hb10
                            go_wp2_with fail
                            refine hFa.mono ?_
                            rintro e6 w11 ⟨rfl, hb11⟩
                            clear hFa
                            have HI11 : Hid (LI w3 w11 L g gy (jj + 1) (.pointer (some ⟨gt, 0, none⟩)) (.pointer (some ⟨gx, 0, none⟩))) := HI10.out.below hb11
                            clear hb11
                            go_wp2_with fail
                            go_roundw
                            case rel => exact ⟨jj + 1, by omega, by go_num, HI11.out⟩
                            case measure => simp [intOf]; omega
                          | true =>
                            rw [hdn] at hoff
                            have HLf : Hid (m9.left = 0) := HD9.out.2.2 hdn
                            have hSt := HP9.out.start1 HD9.out.1.r0
                            clear hfr hdn
                            go_wp2_with fail
                            refine hSt.mono ?_
                            rintro e5 w10 ⟨rfl, ow10, hP10, _, _⟩
                            clear hSt hoff
                            obtain ⟨⟨u10, hu10⟩, _, hf10, hP11⟩ := hP10.on2
                            have HD2 : Hid (PD2 w3 (w10.setCell ⟨gy, 25, none⟩ (.bool false)) L g gy ow10 { m9 with down := false } { m9 with down := false }) := hP11.1.d
                            clear hP10 hP11
                            obtain ⟨m3, Hm3⟩ : ∃ z : PD, Hid (z = { m9 with down := false }) := ⟨_, rfl⟩
                            rw [← Hm3.out] at HD2
                            have HM3 : Hid (Pd m3 (100000 + 30000 * jj + 17000) ∧ m3.down = false ∧ m3.left = 0) := by rw [Hm3.out]; exact ⟨HD9.out.1.on, rfl, HLf.out⟩
                            have HFew : Hid (5 * (cnt m3).2.1.recs.length ≤ 100000 + 30000 * jj + 17000) := (open_pz HM3.out.1 (N := 500000) (by have := HJ.out; omega) (by have := HJ.out; omega)).2.2
                            have hO := HD2.out.open1 _ ⟨HM3.out.1.ok, HM3.out.2.1⟩ (by have := HJ.out; omega) HM3.out.1.by2 (by have := HFew.out; have := HJ.out; omega)
                            obtain ⟨cz2, Hcz2⟩ : ∃ z, Hid (z = (opM m3).1) := ⟨_, rfl⟩
                            rw [← Hcz2.out] at hO
                            go_wp2_with fail
                            refine hO.mono ?_
                            rintro e6 w11 ⟨gt2, ow11, rfl, hP11⟩
                            clear hO hu10 hf10
                            have hO := hP11.open2 _ HM3.out.1.ok (by have := HJ.out; omega) HM3.out.1.pre HM3.out.2.1 HM3.out.1.by2 (by have := HFew.out; have := HJ.out; omega)
                            rw [← Hcz2.out] at hO
                            clear hP11
                            go_wp2_with fail
                            refine hO.mono ?_
                            rintro e7 w12 ⟨gx2, ow12, rfl, hP12⟩
                            clear hO
                            have hI12 := LI.opened (j := jj + 1) hP12 HM3.out.1 (by omega) HSz.out.2.2 HM3.out.2.2 HM3.out.2.1
                            rw [← Hcz2.out] at hI12
                            obtain ⟨v9, Hv9⟩ : ∃ z, Hid (z = opT cz2 gt2) := ⟨_, rfl⟩
                            obtain ⟨v11, Hv11⟩ : ∃ z, Hid (z = opT cz2 gx2) := ⟨_, rfl⟩
                            rw [← Hv9.out, ← Hv11.out] at hI12 ⊢
                            have hTl := hI12.tells HSz.out.2.2
                            have HI12 : Hid (LI w3 w12 L g gy (jj + 1) v9 v11) := hI12
                            clear hP12 hI12
                            go_wp2_with fail
                            refine hTl.mono ?_
                            rintro e8 w13 ⟨rfl, hb13⟩
                            clear hTl
                            have hI13 := HI12.out.below hb13
                            have hFa := hI13.face HSz.out.2.2
                            have HI13 : Hid (LI w3 w13 L g gy (jj + 1) v9 v11) := hI13
                            clear hb13 hI13
                            go_wp2_with fail
                            refine hFa.mono ?_
                            rintro e9 w14 ⟨rfl, hb14⟩
                            clear hFa
                            have HI14 : Hid (LI w3 w14 L g gy (jj + 1) v9 v11) := HI13.out.below hb14
                            clear hb14
                            go_wp2_with fail
                            go_roundw
                            case rel => exact ⟨jj + 1, by omega, by go_num, HI14.out⟩
                            case measure => simp [intOf]; omega
                    · obtain ⟨N, hN⟩ := Int.eq_ofNat_of_zero_le (show 0 ≤ x.n by omega)
                      have Hn1 : Hid (x.n = (N : Int) ∧ 1 ≤ N ∧ N ≤ 9223372036854775807) := by have := HRD.out.n; exact ⟨hN, by omega, by omega⟩
                      clear hn1 hN
                      have hS8 : SB w3 L g gt gy gx bx0 #[.int .i64 x.op, .int .i64 x.n, .slice x.bq x.bl x.bc, .slice x.lq x.ll x.lc, .slice x.kq x.kl x.kc] pB x.bl mm tt mm tt wc.drew := SB.stays _ _ HSC.out (Below.refl _ _).drew
                      refine wp_region_dyn [0, 1, 2, 3, 4, 6, 7, 8, 9, 10] (fun W => At 44 W bx0 #[.int .i64 x.op, .int .i64 x.n, .slice x.bq x.bl x.bc, .slice x.lq x.ll x.lc, .slice x.kq x.kl x.kc] ∧ Below L w3 W) (SB w3 L g gt gy gx bx0 #[.int .i64 x.op, .int .i64 x.n, .slice x.bq x.bl x.bc, .slice x.lq x.ll x.lc, .slice x.kq x.kl x.kc] pB x.bl mm tt mm tt) (by kernel_rfl) hS8 ?_
                      clear hS8
                      refine wpDyn_take ?vP4x0 SB.stays (fun _ h => h.s0) (i := 0) rfl (by kernel_rfl) (by kernel_rfl) (by kernel_rfl) (by kernel_rfl) (by kernel_rfl) (fun _ _ _ h => h) (Gives.value (by rfl) ?yP4x0) ?rP4x0
                      case yP4x0 => (intro w' hSw; clear hSw; go_simp; try with_reducible rfl)
                      (try simp only [Act.put, List.getElem_toArray, List.getElem_cons_zero, List.getElem_cons_succ, List.setIfInBounds_toArray, List.set_cons_zero, List.set_cons_succ])
                      refine wpDyn_take ?vP4x1 SB.stays (fun _ h => h.s0) (i := 1) rfl (by kernel_rfl) (by kernel_rfl) (by kernel_rfl) (by kernel_rfl) (by kernel_rfl) (fun _ _ _ h => h) (Gives.value (by rfl) ?yP4x1) ?rP4x1
                      case yP4x1 => (intro w' hSw; clear hSw; go_simp; try with_reducible rfl)
                      (try simp only [Act.put, List.getElem_toArray, List.getElem_cons_zero, List.getElem_cons_succ, List.setIfInBounds_toArray, List.set_cons_zero, List.set_cons_succ])
                      refine wpDyn_take ?vP4x2 SB.stays (fun _ h => h.s0) (i := 2) rfl (by kernel_rfl) (by kernel_rfl) (by kernel_rfl) (by kernel_rfl) (by kernel_rfl) (fun _ _ _ h => h) (Gives.value (by rfl) ?yP4x2) ?rP4x2
                      case yP4x2 => (intro w' hSw; have hcl := hSw.1.cell 1; clear hSw; go_simp; try with_reducible rfl)
                      (try simp only [Act.put, List.getElem_toArray, List.getElem_cons_zero, List.getElem_cons_succ, List.setIfInBounds_toArray, List.set_cons_zero, List.set_cons_succ])
                      refine wpDyn_take ?vP4x3 SB.stays (fun _ h => h.s0) (i := 3) rfl (by kernel_rfl) (by kernel_rfl) (by kernel_rfl) (by kernel_rfl) (by kernel_rfl) (fun _ _ _ h => h) (Gives.value (by rfl) ?yP4x3) ?rP4x3
                      case yP4x3 => (intro w' hSw; clear hSw; go_simp; try with_reducible rfl)
                      (try simp only [Act.put, List.getElem_toArray, List.getElem_cons_zero, List.getElem_cons_succ, List.setIfInBounds_toArray, List.set_cons_zero, List.set_cons_succ])
                      refine wpDyn_take ?vP4x4 SB.stays (fun _ h => h.s0) (i := 4) rfl (by kernel_rfl) (by kernel_rfl) (by kernel_rfl) (by kernel_rfl) (by kernel_rfl) (fun _ _ _ h => h) (Gives.value (by rfl) ?yP4x4) ?rP4x4
                      case yP4x4 => (intro w' hSw; have hcl := hSw.1.cell 4; clear hSw; go_simp; try with_reducible rfl)
                      (try simp only [Act.put, List.getElem_toArray, List.getElem_cons_zero, List.getElem_cons_succ, List.setIfInBounds_toArray, List.set_cons_zero, List.set_cons_succ])
                      refine wpDyn_take ?vP4x6 SB.stays (fun _ h => h.s0) (i := 6) rfl (by kernel_rfl) (by kernel_rfl) (by kernel_rfl) (by kernel_rfl) (by kernel_rfl) (fun _ _ _ h => h) (Gives.value (by rfl) ?yP4x6) ?rP4x6
                      case yP4x6 => (intro w' hSw; clear hSw; go_simp; try with_reducible rfl)
                      (try simp only [Act.put, List.getElem_toArray, List.getElem_cons_zero, List.getElem_cons_succ, List.setIfInBounds_toArray, List.set_cons_zero, List.set_cons_succ])
                      refine wpDyn_take ?vP4x7 SB.stays (fun _ h => h.s0) (i := 7) rfl (by kernel_rfl) (by kernel_rfl) (by kernel_rfl) (by kernel_rfl) (by kernel_rfl) (fun _ _ _ h => h) (Gives.value (by rfl) ?yP4x7) ?rP4x7
                      case yP4x7 => (intro w' hSw; clear hSw; go_simp; try with_reducible rfl)
                      (try simp only [Act.put, List.getElem_toArray, List.getElem_cons_zero, List.getElem_cons_succ, List.setIfInBounds_toArray, List.set_cons_zero, List.set_cons_succ])
                      refine wpDyn_take ?vP4x8 SB.stays (fun _ h => h.s0) (i := 8) rfl (by kernel_rfl) (by kernel_rfl) (by kernel_rfl) (by kernel_rfl) (by kernel_rfl) (fun _ _ _ h => h) (Gives.value (by rfl) ?yP4x8) ?rP4x8
                      case yP4x8 => (intro w' hSw; have hcl := hSw.1.cell 1; clear hSw; go_simp; try with_reducible rfl)
                      (try simp only [Act.put, List.getElem_toArray, List.getElem_cons_zero, List.getElem_cons_succ, List.setIfInBounds_toArray, List.set_cons_zero, List.set_cons_succ])
                      refine wpDyn_take ?vP4x9 SB.stays (fun _ h => h.s0) (i := 9) rfl (by kernel_rfl) (by kernel_rfl) (by kernel_rfl) (by kernel_rfl) (by kernel_rfl) (fun _ _ _ h => h) (Gives.value (by rfl) ?yP4x9) ?rP4x9
                      case yP4x9 => (intro w' hSw; clear hSw; go_simp; try with_reducible rfl)
                      (try simp only [Act.put, List.getElem_toArray, List.getElem_cons_zero, List.getElem_cons_succ, List.setIfInBounds_toArray, List.set_cons_zero, List.set_cons_succ])
                      refine wpDyn_take ?vP4x10 SB.stays (fun _ h => h.s0) (i := 10) rfl (by kernel_rfl) (by kernel_rfl) (by kernel_rfl) (by kernel_rfl) (by kernel_rfl) (fun _ _ _ h => h) (Gives.value (by rfl) ?yP4x10) ?rP4x10
                      case yP4x10 => (intro w' hSw; have hcl := hSw.1.cell 4; clear hSw; go_simp; try with_reducible rfl)
                      (try simp only [Act.put, List.getElem_toArray, List.getElem_cons_zero, List.getElem_cons_succ, List.setIfInBounds_toArray, List.set_cons_zero, List.set_cons_succ])
                      refine wpDyn_ready (rs := [5]) (by kernel_rfl) (by simp) (AllDyn.cons rfl (fun V hV K hK => ?_) AllDyn.nil)
                      rw [if_pos (by rfl)]
                      obtain ⟨ow2, hP2, hA2, ho2, hn1, hn2, hL2⟩ := hV
                      have hC := hP2.arm1 HD.out.1 HD.out.2.2 N Hn1.out.2.1 x.kq x.kl x.kc x.keep (HRK.out V hP2.bel) HXL.out.2.2.2.2
                      rw [← Hn1.out.1] at hC
                      refine wp_enterX 19 #[.pointer (some ⟨g, 0, none⟩), .int .i64 x.n, .slice x.kq x.kl x.kc] (by first | (go_simp; done) | (go_simp; rfl)) (fun v V' => v = .int .i64 0 ∧ SB w3 L g gt gy gx bx0 #[.int .i64 x.op, .int .i64 x.n, .slice x.bq x.bl x.bc, .slice x.lq x.ll x.lc, .slice x.kq x.kl x.kc] pB x.bl ({ mm with left := N, keep := x.keep }) (tt) mm tt V') (hC.mono fun e V' ⟨h1, h2⟩ => ⟨_, h1, rfl, SB.p1 hP2 hA2 ho2 hn1 hn2 hL2 h2⟩) ?_
                      rintro v V1 ⟨rfl, hS1⟩
                      refine hK.out (SB w3 L g gt gy gx bx0 #[.int .i64 x.op, .int .i64 x.n, .slice x.bq x.bl x.bc, .slice x.lq x.ll x.lc, .slice x.kq x.kl x.kc] pB x.bl ({ mm with left := N, keep := x.keep }) (tt) mm tt) _ _ SB.stays (fun _ _ h => h.s0) hS1 ?_
                      clear hK K hC hS1 hP2 hA2 ho2 hn1 hn2 hL2; try clear hV
                      (try simp only [Act.put, List.getElem_toArray, List.getElem_cons_zero, List.getElem_cons_succ, List.setIfInBounds_toArray, List.set_cons_zero, List.set_cons_succ])
                      refine wpDyn_ready (rs := [11]) (by kernel_rfl) (by simp) (AllDyn.cons rfl (fun V hV K hK => ?_) AllDyn.nil)
                      rw [if_pos (by rfl)]
                      obtain ⟨ow2, hP2, hA2, ho2, hn1, hn2, hL2⟩ := hV
                      have hC := hP2.arm2 HD.out.2.2 N Hn1.out.2.1 x.kq x.kl x.kc x.keep (HRK.out V hP2.bel) HLK.out HXL.out.2.2.2.2
                      rw [← Hn1.out.1] at hC
                      refine wp_enterX 20 #[.pointer (some ⟨gy, 0, none⟩), .int .i64 x.n, .slice x.kq x.kl x.kc] (by first | (go_simp; done) | (go_simp; rfl)) (fun v V' => v = .int .i64 0 ∧ SB w3 L g gt gy gx bx0 #[.int .i64 x.op, .int .i64 x.n, .slice x.bq x.bl x.bc, .slice x.lq x.ll x.lc, .slice x.kq x.kl x.kc] pB x.bl ({ mm with left := N, keep := x.keep }) (tt) ({ mm with left := N, keep := x.keep }) (tt) V') (hC.mono fun e V' ⟨h1, h2⟩ => ⟨_, h1, rfl, SB.p2 hA2 ho2 hn1 hn2 hL2 h2⟩) ?_
                      rintro v V1 ⟨rfl, hS1⟩
                      refine hK.out (SB w3 L g gt gy gx bx0 #[.int .i64 x.op, .int .i64 x.n, .slice x.bq x.bl x.bc, .slice x.lq x.ll x.lc, .slice x.kq x.kl x.kc] pB x.bl ({ mm with left := N, keep := x.keep }) (tt) ({ mm with left := N, keep := x.keep }) (tt)) _ _ SB.stays (fun _ _ h => h.s0) hS1 ?_
                      clear hK K hC hS1 hP2 hA2 ho2 hn1 hn2 hL2; try clear hV
                      (try simp only [Act.put, List.getElem_toArray, List.getElem_cons_zero, List.getElem_cons_succ, List.setIfInBounds_toArray, List.set_cons_zero, List.set_cons_succ])
                      refine wpDyn_ready (rs := [12]) (by kernel_rfl) (by simp) (AllDyn.cons rfl (fun V hV K hK => ?_) AllDyn.nil)
                      rw [if_pos (by rfl)]
                      refine wp_value (.int .i64 0) V (by first | (go_simp; done) | (go_simp; rfl)) ?_
                      refine hK.out (SB w3 L g gt gy gx bx0 #[.int .i64 x.op, .int .i64 x.n, .slice x.bq x.bl x.bc, .slice x.lq x.ll x.lc, .slice x.kq x.kl x.kc] pB x.bl ({ mm with left := N, keep := x.keep }) (tt) ({ mm with left := N, keep := x.keep }) (tt)) _ _ SB.stays (fun _ _ h => h.s0) hV ?_
                      clear hK K hV
                      (try simp only [Act.put, List.getElem_toArray, List.getElem_cons_zero, List.getElem_cons_succ, List.setIfInBounds_toArray, List.set_cons_zero, List.set_cons_succ])
                      refine wpDyn_ready (rs := [13]) (by kernel_rfl) (by simp) (AllDyn.cons rfl (fun V hV K hK => ?_) AllDyn.nil)
                      rw [if_pos (by rfl)]
                      refine wp_value (.int .i64 0) V (by first | (go_simp; done) | (go_simp; rfl)) ?_
                      refine hK.out (SB w3 L g gt gy gx bx0 #[.int .i64 x.op, .int .i64 x.n, .slice x.bq x.bl x.bc, .slice x.lq x.ll x.lc, .slice x.kq x.kl x.kc] pB x.bl ({ mm with left := N, keep := x.keep }) (tt) ({ mm with left := N, keep := x.keep }) (tt)) _ _ SB.stays (fun _ _ h => h.s0) hV ?_
                      clear hK K hV
                      (try simp only [Act.put, List.getElem_toArray, List.getElem_cons_zero, List.getElem_cons_succ, List.setIfInBounds_toArray, List.set_cons_zero, List.set_cons_succ])
                      refine wpDyn_done (by kernel_rfl) (fun W2 hW2 => ?_) _
                      have HS9 : Hid (SB w3 L g gt gy gx bx0 #[.int .i64 x.op, .int .i64 x.n, .slice x.bq x.bl x.bc, .slice x.lq x.ll x.lc, .slice x.kq x.kl x.kc] pB x.bl (({ mm with left := N, keep := x.keep } : PD)) (tt) (({ mm with left := N, keep := x.keep } : PD)) (tt) W2) := hW2
                      have HD9 : Hid (Pd (({ mm with left := N, keep := x.keep } : PD)) (100000 + 30000 * jj + 17000) ∧ Pt (tt) (500000 + (jj + 1)) ∧ Fz (({ mm with left := N, keep := x.keep } : PD))) := ⟨⟨HD.out.1.r0, HD.out.1.r1, fun i hi => (HD.out.1.f i hi).mono (by omega), by show x.keep.length ≤ 16384; rw [HRD.out.k.len]; exact HXL.out.2.2.2.2, Hn1.out.2.2⟩, HD.out.2.1.mono (by omega), (fun e => by have e2 : mm.down = true := e; rw [HD.out.2.2] at e2; cases e2)⟩
                      skip
                      obtain ⟨m9, Hm9⟩ : ∃ z, Hid (z = ({ mm with left := N, keep := x.keep } : PD)) := ⟨_, rfl⟩
                      obtain ⟨t9, Ht9⟩ : ∃ z, Hid (z = tt) := ⟨_, rfl⟩
                      rw [← Hm9.out, ← Ht9.out] at HS9
                      rw [← Hm9.out, ← Ht9.out] at HD9
                      skip
                      go_wp2_with fail
                      go_loopw [163] (fun ix wq => ∃ (k : Nat), k ≤ x.bl ∧ ix = .int .i64 k ∧ SB w3 L g gt gy gx bx0 #[.int .i64 x.op, .int .i64 x.n, .slice x.bq x.bl x.bc, .slice x.lq x.ll x.lc, .slice x.kq x.kl x.kc] pB x.bl m9 t9 m9 t9 wq) (fun ix _ => x.bl - (intOf ix).toNat)
                      case atStart => exact ⟨0, Nat.zero_le _, rfl, HS9.out⟩
                      case round =>
                        obtain ⟨k, hk, rfl, hS⟩ := hrel
                        by_cases hkl : k < x.bl
                        · have hki : (k : Int) < (x.bl : Int) := by omega
                          have hbl : x.bl ≤ 16384 := HXL.out.2.2.1
                          obtain ⟨b, rfl, hcl⟩ := hS.cell (by omega)
                          obtain ⟨⟨v, hv⟩, hfz⟩ := hcl k hkl
                          have HSn : Hid (∀ v, SB w3 L g gt gy gx bx0 #[.int .i64 x.op, .int .i64 x.n, .slice x.bq x.bl x.bc, .slice x.lq x.ll x.lc, .slice x.kq x.kl x.kc] (some ⟨b, 0, none⟩) x.bl m9 t9 m9 t9 (World.setCell _ ⟨b, k, none⟩ (.int .u8 v))) := fun v => hS.setB (op := x.op) rfl (by omega) rfl k v
                          clear hS hcl
                          go_wp2_with fail
                          go_roundw
                          case rel => exact ⟨k + 1, by omega, by go_num, HSn.out _⟩
                          case measure => simp [intOf]; omega
                        · have hki : ¬ (k : Int) < (x.bl : Int) := by omega
                          obtain ⟨ow9, hP9, _⟩ := hS
                          rename World => wq
                          obtain ⟨_, hoff, hfr, _⟩ := hP9.on2
                          have HP9 : Hid (PB w3 wq L g gt gy gx ow9 m9 t9 m9 t9) := hP9
                          clear hP9
                          cases hdn : m9.down with
                          | false =>
                            rw [hdn] at hoff
                            have HI9 : Hid (LI w3 wq L g gy (jj + 1) (.pointer (some ⟨gt, 0, none⟩)) (.pointer (some ⟨gx, 0, none⟩))) := LI.mk0 HP9.out (HD9.out.1.mono (by omega)) HD9.out.2.1 hdn
                            have hTl := HI9.out.tells HSz.out.2.2
                            clear hfr hdn
                            go_wp2_with fail
                            refine hTl.mono ?_
                            rintro e5 w10 ⟨rfl, hb10⟩
                            clear hTl hoff
                            have HI10 := HI9.out.below hb10
                            have hFa := HI10.face HSz.out.2.2
                            have HI10 : Hid (LI w3 w10 L g gy (jj + 1) (.pointer (some ⟨gt, 0, none⟩)) (.pointer (some ⟨gx, 0, none⟩))) := HI10
                            clear hb10
                            go_wp2_with fail
                            refine hFa.mono ?_
                            rintro e6 w11 ⟨rfl, hb11⟩
                            clear hFa
                            have HI11 : Hid (LI w3 w11 L g gy (jj + 1) (.pointer (some ⟨gt, 0, none⟩)) (.pointer (some ⟨gx, 0, none⟩))) := HI10.out.below hb11
                            clear hb11
                            go_wp2_with fail
                            go_roundw
                            case rel => exact ⟨jj + 1, by omega, by go_num, HI11.out⟩
                            case measure => simp [intOf]; omega
                          | true =>
                            rw [hdn] at hoff
                            have HLf : Hid (m9.left = 0) := HD9.out.2.2 hdn
                            have hSt := HP9.out.start1 HD9.out.1.r0
                            clear hfr hdn
                            go_wp2_with fail
                            refine hSt.mono ?_
                            rintro e5 w10 ⟨rfl, ow10, hP10, _, _⟩
                            clear hSt hoff
                            obtain ⟨⟨u10, hu10⟩, _, hf10, hP11⟩ := hP10.on2
                            have HD2 : Hid (PD2 w3 (w10.setCell ⟨gy, 25, none⟩ (.bool false)) L g gy ow10 { m9 with down := false } { m9 with down := false }) := hP11.1.d
                            clear hP10 hP11
                            obtain ⟨m3, Hm3⟩ : ∃ z : PD, Hid (z = { m9 with down := false }) := ⟨_, rfl⟩
                            rw [← Hm3.out] at HD2
                            have HM3 : Hid (Pd m3 (100000 + 30000 * jj + 17000) ∧ m3.down = false ∧ m3.left = 0) := by rw [Hm3.out]; exact ⟨HD9.out.1.on, rfl, HLf.out⟩
                            have HFew : Hid (5 * (cnt m3).2.1.recs.length ≤ 100000 + 30000 * jj + 17000) := (open_pz HM3.out.1 (N := 500000) (by have := HJ.out; omega) (by have := HJ.out; omega)).2.2
                            have hO := HD2.out.open1 _ ⟨HM3.out.1.ok, HM3.out.2.1⟩ (by have := HJ.out; omega) HM3.out.1.by2 (by have := HFew.out; have := HJ.out; omega)
                            obtain ⟨cz2, Hcz2⟩ : ∃ z, Hid (z = (opM m3).1) := ⟨_, rfl⟩
                            rw [← Hcz2.out] at hO
                            go_wp2_with fail
                            refine hO.mono ?_
                            rintro e6 w11 ⟨gt2, ow11, rfl, hP11⟩
                            clear hO hu10 hf10
                            have hO := hP11.open2 _ HM3.out.1.ok (by have := HJ.out; omega) HM3.out.1.pre HM3.out.2.1 HM3.out.1.by2 (by have := HFew.out; have := HJ.out; omega)
                            rw [← Hcz2.out] at hO
                            clear hP11
                            go_wp2_with fail
                            refine hO.mono ?_
                            rintro e7 w12 ⟨gx2, ow12, rfl, hP12⟩
                            clear hO
                            have hI12 := LI.opened (j := jj + 1) hP12 HM3.out.1 (by omega) HSz.out.2.2 HM3.out.2.2 HM3.out.2.1
                            rw [← Hcz2.out] at hI12
                            obtain ⟨v9, Hv9⟩ : ∃ z, Hid (z = opT cz2 gt2) := ⟨_, rfl⟩
                            obtain ⟨v11, Hv11⟩ : ∃ z, Hid (z = opT cz2 gx2) := ⟨_, rfl⟩
                            rw [← Hv9.out, ← Hv11.out] at hI12 ⊢
                            have hTl := hI12.tells HSz.out.2.2
                            have HI12 : Hid (LI w3 w12 L g gy (jj + 1) v9 v11) := hI12
                            clear hP12 hI12
                            go_wp2_with fail
                            refine hTl.mono ?_
                            rintro e8 w13 ⟨rfl, hb13⟩
                            clear hTl
                            have hI13 := HI12.out.below hb13
                            have hFa := hI13.face HSz.out.2.2
                            have HI13 : Hid (LI w3 w13 L g gy (jj + 1) v9 v11) := hI13
                            clear hb13 hI13
                            go_wp2_with fail
                            refine hFa.mono ?_
                            rintro e9 w14 ⟨rfl, hb14⟩
                            clear hFa
                            have HI14 : Hid (LI w3 w14 L g gy (jj + 1) v9 v11) := HI13.out.below hb14
                            clear hb14
                            go_wp2_with fail
                            go_roundw
                            case rel => exact ⟨jj + 1, by omega, by go_num, HI14.out⟩
                            case measure => simp [intOf]; omega
                | false =>
                  as_aux_lemma =>
                    have HRB : Hid (∀ W, Below L w3 W → Rd .u8 W x.bq x.bl x.bc x.b) := fun W h => HRD.out.b.below' (by rw [← HH.out]; exact HB3.out.trans (h.mono HHL.out))
                    have HRK : Hid (∀ W, Below L w3 W → Rd .i64 W x.kq x.kl x.kc x.keep) := fun W h => HRD.out.k.below' (by rw [← HH.out]; exact HB3.out.trans (h.mono HHL.out))
                    have HLK : Hid (∀ a, x.kq = some a → 0 < x.kl → a.block < L) := fun a ea h0 => Nat.lt_of_lt_of_le (HRD.out.k.ltb a ea h0) (by rw [← HH.out]; exact HHL.out)
                    go_wp2_with fail
                    rw [← Hbx0.out]
                    clear hx0
                    have hS8 : (SB w3 L g gt gy gx bx0 #[.int .i64 x.op, .int .i64 x.n, .slice x.bq x.bl x.bc, .slice x.lq x.ll x.lc, .slice x.kq x.kl x.kc] pB x.bl mm tt mm tt wc.drew) ∧ Rd .u8 wc.drew pB x.bl cB x.b := ⟨SB.stays _ _ HSC.out (Below.refl _ _).drew, HLC.out.2.below' (Below.refl _ _).drew⟩
                    refine wp_region_dyn [0, 1, 3, 4, 5, 6] (fun W => At 44 W bx0 #[.int .i64 x.op, .int .i64 x.n, .slice x.bq x.bl x.bc, .slice x.lq x.ll x.lc, .slice x.kq x.kl x.kc] ∧ Below L w3 W) (fun W => SB w3 L g gt gy gx bx0 #[.int .i64 x.op, .int .i64 x.n, .slice x.bq x.bl x.bc, .slice x.lq x.ll x.lc, .slice x.kq x.kl x.kc] pB x.bl mm tt mm tt W ∧ Rd .u8 W pB x.bl cB x.b) (by kernel_rfl) hS8 ?_
                    clear hS8
                    refine wpDyn_take ?vP5x0 (fun _ _ h hb => ⟨SB.stays _ _ h.1 hb, h.2.below' hb⟩) (fun _ h => h.1.s0) (i := 0) rfl (by kernel_rfl) (by kernel_rfl) (by kernel_rfl) (by kernel_rfl) (by kernel_rfl) (fun _ _ _ h => h) (Gives.value (by rfl) ?yP5x0) ?rP5x0
                    case yP5x0 => (intro w' hSw; clear hSw; go_simp; try with_reducible rfl)
                    (try simp only [Act.put, List.getElem_toArray, List.getElem_cons_zero, List.getElem_cons_succ, List.setIfInBounds_toArray, List.set_cons_zero, List.set_cons_succ])
                    refine wpDyn_take ?vP5x1 (fun _ _ h hb => ⟨SB.stays _ _ h.1 hb, h.2.below' hb⟩) (fun _ h => h.1.s0) (i := 1) rfl (by kernel_rfl) (by kernel_rfl) (by kernel_rfl) (by kernel_rfl) (by kernel_rfl) (fun _ _ _ h => h) (Gives.value (by rfl) ?yP5x1) ?rP5x1
                    case yP5x1 => (intro w' hSw; clear hSw; go_simp; try with_reducible rfl)
                    (try simp only [Act.put, List.getElem_toArray, List.getElem_cons_zero, List.getElem_cons_succ, List.setIfInBounds_toArray, List.set_cons_zero, List.set_cons_succ])
                    refine wpDyn_take ?vP5x3 (fun _ _ h hb => ⟨SB.stays _ _ h.1 hb, h.2.below' hb⟩) (fun _ h => h.1.s0) (i := 3) rfl (by kernel_rfl) (by kernel_rfl) (by kernel_rfl) (by kernel_rfl) (by kernel_rfl) (fun _ _ _ h => h) (Gives.value (by rfl) ?yP5x3) ?rP5x3
                    case yP5x3 => (intro w' hSw; clear hSw; go_simp; try with_reducible rfl)
                    (try simp only [Act.put, List.getElem_toArray, List.getElem_cons_zero, List.getElem_cons_succ, List.setIfInBounds_toArray, List.set_cons_zero, List.set_cons_succ])
                    refine wpDyn_take ?vP5x4 (fun _ _ h hb => ⟨SB.stays _ _ h.1 hb, h.2.below' hb⟩) (fun _ h => h.1.s0) (i := 4) rfl (by kernel_rfl) (by kernel_rfl) (by kernel_rfl) (by kernel_rfl) (by kernel_rfl) (fun _ _ _ h => h) (Gives.value (by rfl) ?yP5x4) ?rP5x4
                    case yP5x4 => (intro w' hSw; clear hSw; go_simp; try with_reducible rfl)
                    (try simp only [Act.put, List.getElem_toArray, List.getElem_cons_zero, List.getElem_cons_succ, List.setIfInBounds_toArray, List.set_cons_zero, List.set_cons_succ])
                    refine wpDyn_take ?vP5x5 (fun _ _ h hb => ⟨SB.stays _ _ h.1 hb, h.2.below' hb⟩) (fun _ h => h.1.s0) (i := 5) rfl (by kernel_rfl) (by kernel_rfl) (by kernel_rfl) (by kernel_rfl) (by kernel_rfl) (fun _ _ _ h => h) (Gives.value (by rfl) ?yP5x5) ?rP5x5
                    case yP5x5 => (intro w' hSw; have hcl := hSw.1.cell 2; clear hSw; go_simp; try with_reducible rfl)
                    (try simp only [Act.put, List.getElem_toArray, List.getElem_cons_zero, List.getElem_cons_succ, List.setIfInBounds_toArray, List.set_cons_zero, List.set_cons_succ])
                    refine wpDyn_take ?vP5x6 (fun _ _ h hb => ⟨SB.stays _ _ h.1 hb, h.2.below' hb⟩) (fun _ h => h.1.s0) (i := 6) rfl (by kernel_rfl) (by kernel_rfl) (by kernel_rfl) (by kernel_rfl) (by kernel_rfl) (fun _ _ _ h => h) (Gives.value (by rfl) ?yP5x6) ?rP5x6
                    case yP5x6 => (intro w' hSw; have hst := (HRB.out w' hSw.2).str; clear hSw; go_simp; try with_reducible rfl)
                    (try simp only [Act.put, List.getElem_toArray, List.getElem_cons_zero, List.getElem_cons_succ, List.setIfInBounds_toArray, List.set_cons_zero, List.set_cons_succ])
                    refine wpDyn_ready (rs := [2]) (by kernel_rfl) (by simp) (AllDyn.cons rfl (fun V hV K hK => ?_) AllDyn.nil)
                    rw [if_pos (by rfl)]
                    obtain ⟨ow2, hP2, hA2, ho2, hn1, hn2, hL2⟩ := hV.1
                    have hC := hP2.put1 HD.out.1 HJ.out.1 HD.out.2.2 HD.out.2.1 (by have := HJ.out; omega) pB x.bl cB x.b hV.2 HRD.out.y (fun y ey h0 => ⟨Or.inr (hL2.lw y ey h0).1, hP2.ts.ne (hL2.lw y ey h0).1⟩)
                    refine wp_enterX 21 #[.pointer (some ⟨gt, 0, none⟩), .slice pB x.bl cB] (by first | (go_simp; done) | (go_simp; rfl)) (fun v V' => v = .int .i64 (ptT mm tt x.b).1 ∧ SB w3 L g gt gy gx bx0 #[.int .i64 x.op, .int .i64 x.n, .slice x.bq x.bl x.bc, .slice x.lq x.ll x.lc, .slice x.kq x.kl x.kc] pB x.bl ((ptT mm tt x.b).2.1) ((ptT mm tt x.b).2.2) mm tt V') (hC.mono fun e V' ⟨h1, h2⟩ => ⟨_, h1, rfl, SB.p1 hP2 hA2 ho2 hn1 hn2 hL2 h2⟩) ?_
                    rintro v V1 ⟨rfl, hS1⟩
                    refine hK.out (SB w3 L g gt gy gx bx0 #[.int .i64 x.op, .int .i64 x.n, .slice x.bq x.bl x.bc, .slice x.lq x.ll x.lc, .slice x.kq x.kl x.kc] pB x.bl ((ptT mm tt x.b).2.1) ((ptT mm tt x.b).2.2) mm tt) _ _ SB.stays (fun _ _ h => h.s0) hS1 ?_
                    clear hK K hC hS1 hP2 hA2 ho2 hn1 hn2 hL2; try clear hV
                    (try simp only [Act.put, List.getElem_toArray, List.getElem_cons_zero, List.getElem_cons_succ, List.setIfInBounds_toArray, List.set_cons_zero, List.set_cons_succ])
                    refine wpDyn_ready (rs := [7]) (by kernel_rfl) (by simp) (AllDyn.cons rfl (fun V hV K hK => ?_) AllDyn.nil)
                    rw [if_pos (by rfl)]
                    obtain ⟨ow2, hP2, hA2, ho2, hn1, hn2, hL2⟩ := hV
                    have hC := hP2.put2 HD.out.1 HJ.out.1 HD.out.2.2 HD.out.2.1 (by have := HJ.out; omega) x.b HRD.out.y
                    refine wp_enterX 22 #[.pointer (some ⟨gx, 0, none⟩), .string (strOfNums x.b)] (by first | (go_simp; done) | (go_simp; rfl)) (fun v V' => v = .int .i64 (ptT mm tt x.b).1 ∧ SB w3 L g gt gy gx bx0 #[.int .i64 x.op, .int .i64 x.n, .slice x.bq x.bl x.bc, .slice x.lq x.ll x.lc, .slice x.kq x.kl x.kc] pB x.bl ((ptT mm tt x.b).2.1) ((ptT mm tt x.b).2.2) ((ptT mm tt x.b).2.1) ((ptT mm tt x.b).2.2) V') (hC.mono fun e V' ⟨h1, h2⟩ => ⟨_, h1, rfl, SB.p2 hA2 ho2 hn1 hn2 hL2 h2⟩) ?_
                    rintro v V1 ⟨rfl, hS1⟩
                    refine hK.out (SB w3 L g gt gy gx bx0 #[.int .i64 x.op, .int .i64 x.n, .slice x.bq x.bl x.bc, .slice x.lq x.ll x.lc, .slice x.kq x.kl x.kc] pB x.bl ((ptT mm tt x.b).2.1) ((ptT mm tt x.b).2.2) ((ptT mm tt x.b).2.1) ((ptT mm tt x.b).2.2)) _ _ SB.stays (fun _ _ h => h.s0) hS1 ?_
                    clear hK K hC hS1 hP2 hA2 ho2 hn1 hn2 hL2; try clear hV
                    (try simp only [Act.put, List.getElem_toArray, List.getElem_cons_zero, List.getElem_cons_succ, List.setIfInBounds_toArray, List.set_cons_zero, List.set_cons_succ])
                    refine wpDyn_ready (rs := [8]) (by kernel_rfl) (by simp) (AllDyn.cons rfl (fun V hV K hK => ?_) AllDyn.nil)
                    rw [if_pos (by rfl)]
                    refine wp_value (.int .i64 (ptT mm tt x.b).1) V (by first | (go_simp; done) | (go_simp; rfl)) ?_
                    refine hK.out (SB w3 L g gt gy gx bx0 #[.int .i64 x.op, .int .i64 x.n, .slice x.bq x.bl x.bc, .slice x.lq x.ll x.lc, .slice x.kq x.kl x.kc] pB x.bl ((ptT mm tt x.b).2.1) ((ptT mm tt x.b).2.2) ((ptT mm tt x.b).2.1) ((ptT mm tt x.b).2.2)) _ _ SB.stays (fun _ _ h => h.s0) hV ?_
                    clear hK K hV
                    (try simp only [Act.put, List.getElem_toArray, List.getElem_cons_zero, List.getElem_cons_succ, List.setIfInBounds_toArray, List.set_cons_zero, List.set_cons_succ])
                    refine wpDyn_ready (rs := [9]) (by kernel_rfl) (by simp) (AllDyn.cons rfl (fun V hV K hK => ?_) AllDyn.nil)
                    rw [if_pos (by rfl)]
                    refine wp_value (.int .i64 (ptT mm tt x.b).1) V (by first | (go_simp; done) | (go_simp; rfl)) ?_
                    refine hK.out (SB w3 L g gt gy gx bx0 #[.int .i64 x.op, .int .i64 x.n, .slice x.bq x.bl x.bc, .slice x.lq x.ll x.lc, .slice x.kq x.kl x.kc] pB x.bl ((ptT mm tt x.b).2.1) ((ptT mm tt x.b).2.2) ((ptT mm tt x.b).2.1) ((ptT mm tt x.b).2.2)) _ _ SB.stays (fun _ _ h => h.s0) hV ?_
                    clear hK K hV
                    (try simp only [Act.put, List.getElem_toArray, List.getElem_cons_zero, List.getElem_cons_succ, List.setIfInBounds_toArray, List.set_cons_zero, List.set_cons_succ])
                    refine wpDyn_done (by kernel_rfl) (fun W2 hW2 => ?_) _
                    have HS9 : Hid (SB w3 L g gt gy gx bx0 #[.int .i64 x.op, .int .i64 x.n, .slice x.bq x.bl x.bc, .slice x.lq x.ll x.lc, .slice x.kq x.kl x.kc] pB x.bl ((ptT mm tt x.b).2.1) ((ptT mm tt x.b).2.2) ((ptT mm tt x.b).2.1) ((ptT mm tt x.b).2.2) W2) := hW2
                    have HD9 : Hid (Pd ((ptT mm tt x.b).2.1) (100000 + 30000 * jj + 17000) ∧ Pt ((ptT mm tt x.b).2.2) (500000 + (jj + 1)) ∧ Fz ((ptT mm tt x.b).2.1)) := ⟨(put_pz HD.out.1 HD.out.2.1 HRD.out.y (by have := HXL.out; omega)).1, (put_pz HD.out.1 HD.out.2.1 HRD.out.y (by have := HXL.out; omega)).2, Fz.put (fun e => by rw [HD.out.2.2] at e; cases e) tt x.b⟩
                    obtain ⟨cd, Hcd⟩ : ∃ z, Hid (z = (ptT mm tt x.b).1) := ⟨_, rfl⟩
                    obtain ⟨m9, Hm9⟩ : ∃ z, Hid (z = (ptT mm tt x.b).2.1) := ⟨_, rfl⟩
                    obtain ⟨t9, Ht9⟩ : ∃ z, Hid (z = (ptT mm tt x.b).2.2) := ⟨_, rfl⟩
                    rw [← Hm9.out, ← Ht9.out] at HS9
                    rw [← Hm9.out, ← Ht9.out] at HD9
                    (try rw [← Hcd.out])
                    go_wp2_with fail
                    go_loopw [163] (fun ix wq => ∃ (k : Nat), k ≤ x.bl ∧ ix = .int .i64 k ∧ SB w3 L g gt gy gx bx0 #[.int .i64 x.op, .int .i64 x.n, .slice x.bq x.bl x.bc, .slice x.lq x.ll x.lc, .slice x.kq x.kl x.kc] pB x.bl m9 t9 m9 t9 wq) (fun ix _ => x.bl - (intOf ix).toNat)
                    case atStart => exact ⟨0, Nat.zero_le _, rfl, HS9.out⟩
                    case round =>
                      obtain ⟨k, hk, rfl, hS⟩ := hrel
                      by_cases hkl : k < x.bl
                      · have hki : (k : Int) < (x.bl : Int) := by omega
                        have hbl : x.bl ≤ 16384 := HXL.out.2.2.1
                        obtain ⟨b, rfl, hcl⟩ := hS.cell (by omega)
                        obtain ⟨⟨v, hv⟩, hfz⟩ := hcl k hkl
                        have HSn : Hid (∀ v, SB w3 L g gt gy gx bx0 #[.int .i64 x.op, .int .i64 x.n, .slice x.bq x.bl x.bc, .slice x.lq x.ll x.lc, .slice x.kq x.kl x.kc] (some ⟨b, 0, none⟩) x.bl m9 t9 m9 t9 (World.setCell _ ⟨b, k, none⟩ (.int .u8 v))) := fun v => hS.setB (op := x.op) rfl (by omega) rfl k v
                        clear hS hcl
                        go_wp2_with fail
                        go_roundw
                        case rel => exact ⟨k + 1, by omega, by go_num, HSn.out _⟩
                        case measure => simp [intOf]; omega
                      · have hki : ¬ (k : Int) < (x.bl : Int) := by omega
                        obtain ⟨ow9, hP9, _⟩ := hS
                        rename World => wq
                        obtain ⟨_, hoff, hfr, _⟩ := hP9.on2
                        have HP9 : Hid (PB w3 wq L g gt gy gx ow9 m9 t9 m9 t9) := hP9
                        clear hP9
                        cases hdn : m9.down with
                        | false =>
                          rw [hdn] at hoff
                          have HI9 : Hid (LI w3 wq L g gy (jj + 1) (.pointer (some ⟨gt, 0, none⟩)) (.pointer (some ⟨gx, 0, none⟩))) := LI.mk0 HP9.out (HD9.out.1.mono (by omega)) HD9.out.2.1 hdn
                          have hTl := HI9.out.tells HSz.out.2.2
                          clear hfr hdn
                          go_wp2_with fail
                          refine hTl.mono ?_
                          rintro e5 w10 ⟨rfl, hb10⟩
                          clear hTl hoff
                          have HI10 := HI9.out.below hb10
                          have hFa := HI10.face HSz.out.2.2
                          have HI10 : Hid (LI w3 w10 L g gy (jj + 1) (.pointer (some ⟨gt, 0, none⟩)) (.pointer (some ⟨gx, 0, none⟩))) := HI10
                          clear hb10
                          go_wp2_with fail
                          refine hFa.mono ?_
                          rintro e6 w11 ⟨rfl, hb11⟩
                          clear hFa
                          have HI11 : Hid (LI w3 w11 L g gy (jj + 1) (.pointer (some ⟨gt, 0, none⟩)) (.pointer (some ⟨gx, 0, none⟩))) := HI10.out.below hb11
                          clear hb11
                          go_wp2_with fail
                          go_roundw
                          case rel => exact ⟨jj + 1, by omega, by go_num, HI11.out⟩
                          case measure => simp [intOf]; omega
                        | true =>
                          rw [hdn] at hoff
                          have HLf : Hid (m9.left = 0) := HD9.out.2.2 hdn
                          have hSt := HP9.out.start1 HD9.out.1.r0
                          clear hfr hdn
                          go_wp2_with fail
                          refine hSt.mono ?_
                          rintro e5 w10 ⟨rfl, ow10, hP10, _, _⟩
                          clear hSt hoff
                          obtain ⟨⟨u10, hu10⟩, _, hf10, hP11⟩ := hP10.on2
                          have HD2 : Hid (PD2 w3 (w10.setCell ⟨gy, 25, none⟩ (.bool false)) L g gy ow10 { m9 with down := false } { m9 with down := false }) := hP11.1.d
                          clear hP10 hP11
                          obtain ⟨m3, Hm3⟩ : ∃ z : PD, Hid (z = { m9 with down := false }) := ⟨_, rfl⟩
                          rw [← Hm3.out] at HD2
                          have HM3 : Hid (Pd m3 (100000 + 30000 * jj + 17000) ∧ m3.down = false ∧ m3.left = 0) := by rw [Hm3.out]; exact ⟨HD9.out.1.on, rfl, HLf.out⟩
                          have HFew : Hid (5 * (cnt m3).2.1.recs.length ≤ 100000 + 30000 * jj + 17000) := (open_pz HM3.out.1 (N := 500000) (by have := HJ.out; omega) (by have := HJ.out; omega)).2.2
                          have hO := HD2.out.open1 _ ⟨HM3.out.1.ok, HM3.out.2.1⟩ (by have := HJ.out; omega) HM3.out.1.by2 (by have := HFew.out; have := HJ.out; omega)
                          obtain ⟨cz2, Hcz2⟩ : ∃ z, Hid (z = (opM m3).1) := ⟨_, rfl⟩
                          rw [← Hcz2.out] at hO
                          go_wp2_with fail
                          refine hO.mono ?_
                          rintro e6 w11 ⟨gt2, ow11, rfl, hP11⟩
                          clear hO hu10 hf10
                          have hO := hP11.open2 _ HM3.out.1.ok (by have := HJ.out; omega) HM3.out.1.pre HM3.out.2.1 HM3.out.1.by2 (by have := HFew.out; have := HJ.out; omega)
                          rw [← Hcz2.out] at hO
                          clear hP11
                          go_wp2_with fail
                          refine hO.mono ?_
                          rintro e7 w12 ⟨gx2, ow12, rfl, hP12⟩
                          clear hO
                          have hI12 := LI.opened (j := jj + 1) hP12 HM3.out.1 (by omega) HSz.out.2.2 HM3.out.2.2 HM3.out.2.1
                          rw [← Hcz2.out] at hI12
                          obtain ⟨v9, Hv9⟩ : ∃ z, Hid (z = opT cz2 gt2) := ⟨_, rfl⟩
                          obtain ⟨v11, Hv11⟩ : ∃ z, Hid (z = opT cz2 gx2) := ⟨_, rfl⟩
                          rw [← Hv9.out, ← Hv11.out] at hI12 ⊢
                          have hTl := hI12.tells HSz.out.2.2
                          have HI12 : Hid (LI w3 w12 L g gy (jj + 1) v9 v11) := hI12
                          clear hP12 hI12
                          go_wp2_with fail
                          refine hTl.mono ?_
                          rintro e8 w13 ⟨rfl, hb13⟩
                          clear hTl
                          have hI13 := HI12.out.below hb13
                          have hFa := hI13.face HSz.out.2.2
                          have HI13 : Hid (LI w3 w13 L g gy (jj + 1) v9 v11) := hI13
                          clear hb13 hI13
                          go_wp2_with fail
                          refine hFa.mono ?_
                          rintro e9 w14 ⟨rfl, hb14⟩
                          clear hFa
                          have HI14 : Hid (LI w3 w14 L g gy (jj + 1) v9 v11) := HI13.out.below hb14
                          clear hb14
                          go_wp2_with fail
                          go_roundw
                          case rel => exact ⟨jj + 1, by omega, by go_num, HI14.out⟩
                          case measure => simp [intOf]; omega
        · have eo : ∀ x, opT cz x = .pointer none := fun x => by unfold opT; rw [if_neg hcz]
          rw [eo, eo]
          clear eo
          have hAw := awake_any wb
          go_wp2_with fail
          rw [← Hwb.out]
          refine hAw.mono ?_
          rintro e9 w99 ⟨rfl, hb99⟩
          clear hAw
          have HB99 : Hid (Below H w w99) := HBW.out.trans (hb99.mono HHB.out)
          clear hb99
          go_wp2_with fail
          go_ret
          exact ⟨rfl, by have h := HB99.out; rw [HH.out] at h; exact h⟩
      · have hji : ¬ (jj : Int) < (n : Int) := by omega
        have hbw : Below H w wr := HB3.out.trans (hI.bel.1.mono HHL.out)
        have hAw := awake_any wr
        have HS : Hid (H ≤ wr.heap.size) := Nat.le_trans HHL.out hI.bel.2
        have HB : Hid (Below H w wr) := hbw
        clear hI hbw
        go_wp2_with fail
        refine hAw.mono ?_
        rintro e9 w99 ⟨rfl, hb99⟩
        clear hAw
        have HB99 : Hid (Below H w w99) := HB.out.trans (hb99.mono HS.out)
        clear hb99
        go_wp2_with fail
        go_ret
        exact ⟨rfl, by have h := HB99.out; rw [HH.out] at h; exact h⟩

end Go.Proofs.YtpjhadaiodnnaaaGreat.M
end
