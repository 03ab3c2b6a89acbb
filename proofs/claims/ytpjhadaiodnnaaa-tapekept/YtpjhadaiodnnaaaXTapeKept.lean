/-
  Own text: the walk of the law TapeKept.
-/
import Derived.Test.YtpjhadaiodnnaaaXK
section
namespace Go.Proofs.Ytpjhadaiodnnaaa.M
open Go.ChangeShapes Go.WideShapes Go.ChangeAt Go.RowKit
set_option linter.unusedSimpArgs false

theorem wp_append6 {P : Program} {op : Oper} {a : Act} {w : World} {K : Act → World → Prop} {Q : Exit → Act → World → Prop} (s x : Operand) (t : TypeId) (hop : op.op = .call { callee := .builtin .append, args := #[s, x], argTypes := #[t, t] }) (v v' r : Value) (w' : World) (hs : a.eval s = v) (hx : a.eval x = v') (hrun : (Builtin.append_ #[t, t] op.type #[v, v']).run P w = .ok r w') (h : K (a.put op.dst r) w') : op.wp P a w K Q := by
  unfold Oper.wp
  simp [execOp, hop, resolve, invoke, builtin, hs, hx, hrun, Result.andThen]
  exact h

theorem sizeL6 : (Try.prog.info? 49).map (·.size) = some 1 := by kernel_rfl

theorem OwG.made (e : TypeId) (w : World) (B : Nat) (v : Value) (hB : B ≤ w.heap.size) : OwG e (w.alloc (.cells #[v] e)) B (some ⟨w.heap.size, 0, none⟩) 1 1 [v] := by
  have hA := At.new e w #[v]
  refine ⟨⟨rfl, Nat.le_refl _, (fun h => by cases h), fun _ => ⟨w.heap.size, 0, rfl, fun i hi => ?_⟩⟩, fun _ => ⟨w.heap.size, 0, _, rfl, hB, hA, Nat.le_refl _⟩⟩
  match i, hi with
  | 0, _ => exact hA.cell 0

theorem arm_num (nn : Int) : ∃ N : Nat, wrap64 (1 + wrap64 ((IntKind.u64.wrap nn).tmod 4000)) = (N : Int) ∧ 1 ≤ N ∧ N ≤ 4000 := by
  have h0 : 0 ≤ IntKind.u64.wrap nn := by rw [IntKind.wrap_u64]; omega
  have h1 : (IntKind.u64.wrap nn).tmod 4000 = IntKind.u64.wrap nn % 4000 := Int.tmod_eq_emod_of_nonneg h0
  have h2 : 0 ≤ IntKind.u64.wrap nn % 4000 ∧ IntKind.u64.wrap nn % 4000 < 4000 := by omega
  rw [h1]
  generalize IntKind.u64.wrap nn % 4000 = x at h2
  refine ⟨(1 + x).toNat, ?_, by omega, by omega⟩
  unfold wrap64
  omega

theorem one_list (w : World) (p : Option Addr) (n c : Nat) (ls : List Tv) (hl : RdT w p n ls) :
    RdTT (w.alloc (.cells #[.slice p n c] 42)) (some ⟨w.heap.size, 0, none⟩) 1 [ls] ∧ Below w.heap.size w (w.alloc (.cells #[.slice p n c] 42)) := by
  have h1 := below_alloc w (.cells #[.slice p n c] 42)
  have hA := At.new 42 w #[.slice p n c]
  refine ⟨⟨rfl, fun _ => ⟨w.heap.size, 0, rfl, fun j hj => ?_⟩⟩, h1⟩
  match j, hj with
  | 0, _ => exact ⟨p, n, c, hA.cell 0, hl.below h1⟩

set_option maxRecDepth 20000 in
set_option maxHeartbeats 8000000 in
theorem walk_TapeKept (w : World) (p : Option Addr) (n c : Nat) (ls : List Tv) (hl : RdT w p n ls) (nn : Int) (q : Option Addr) (m d : Nat) (ks : List Int) (hq : Rd .i64 w q m d ks) :
    Calls Try.prog 4 #[.slice p n c, .int .i64 nn, .slice q m d] w fun e w' => e = .returned (.bool true) ∧ Below w.heap.size w w' := by
  obtain ⟨hTT, hb2⟩ := one_list w p n c ls hl
  have hSh := short_any _ _ 1 1 _ hTT (by decide)
  obtain ⟨H, HH⟩ : ∃ z, Hid (z = w.heap.size) := ⟨_, rfl⟩
  have HB2 : Hid (Below H w (w.alloc (.cells #[.slice p n c] 42))) := by rw [HH.out]; exact hb2
  have HL : Hid (RdT w p n ls) := hl
  have HQ : Hid (Rd .i64 w q m d ks) := hq
  clear hTT hb2 hl hq
  go_enter Try.func4, Try.ntmps4
  go_wp2_with fail
  refine hSh.mono ?_
  rintro e1 w3 ⟨⟨b, rfl, hbt⟩, hb3⟩
  clear hSh
  have HB3 : Hid (Below H w w3) := HB2.out.trans (hb3.mono (by rw [HH.out]; simp))
  have HH3 : Hid (H ≤ w3.heap.size) := Nat.le_trans (by rw [HH.out]; exact Nat.le_refl _) HB3.out.size
  have HBT : Hid (b = true → totT [ls] 1 ≤ 16384 ∧ cntT [ls] 1 ≤ 60) := hbt
  have hAw := awake_any w3
  clear hb3 hbt
  cases b with
  | false =>
    go_wp2_with fail
    refine hAw.mono ?_
    rintro e2 w9 ⟨rfl, hb9⟩
    clear hAw
    have HB9 : Hid (Below H w w9) := HB3.out.trans (hb9.mono HH3.out)
    clear hb9
    go_wp2_with fail
    go_ret
    exact ⟨rfl, by have h := HB9.out; rw [HH.out] at h; exact h⟩
  | true =>
    obtain ⟨hb1, hb2⟩ := HBT.out rfl
    by_cases hm : (100 : Int) < (m : Int)
    · clear hb1 hb2
      go_wp2_with fail
      refine hAw.mono ?_
      rintro e2 w9 ⟨rfl, hb9⟩
      clear hAw
      have HB9 : Hid (Below H w w9) := HB3.out.trans (hb9.mono HH3.out)
      clear hb9
      go_wp2_with fail
      go_ret
      exact ⟨rfl, by have h := HB9.out; rw [HH.out] at h; exact h⟩
    · have t0 := tot_each (LL := [ls]) 1 hb1 0 (by decide)
      have HN : Hid (n ≤ 60) := by show _ ≤ _; rw [← HL.out.len]; exact Nat.le_trans t0.2 hb2
      have HSZ : Hid (szT ls n ≤ 16384) := by show _ ≤ _; rw [← HL.out.len]; exact t0.1
      have HM : Hid (m ≤ 100) := by show _ ≤ _; omega
      have hBg := begun_any w3
      obtain ⟨L, HLL⟩ : ∃ z, Hid (z = w3.heap.size) := ⟨_, rfl⟩
      rw [← HLL.out] at hBg
      have HHL : Hid (H ≤ L) := by rw [HLL.out]; exact HH3.out
      clear t0 hb1 hb2 HBT hAw
      go_wp2_with fail
      refine hBg.mono ?_
      rintro e2 w4 ⟨g, gt, rfl, T4, hb4⟩
      clear hBg hm
      obtain ⟨own4, T4⟩ := T4.x
      have HT4 : Hid (TSx w4 L 0 g gt own4 mq1 ⟨0, 0, ⟨1, [], []⟩⟩ ∧ Below L w3 w4) := ⟨T4, hb4⟩
      clear T4 hb4
      go_wp2_with fail
      obtain ⟨N, hN, hN1, hN2⟩ : ∃ N : Nat, wrap64 (1 + wrap64 ((IntKind.u64.wrap nn).tmod 4000)) = (N : Int) ∧ 1 ≤ N ∧ N ≤ 4000 := arm_num nn
      rw [hN]
      have hAr := Arm_T w4 L g gt own4 mq1 _ HT4.out.1 (by decide) rfl N hN1 q m d ks (HQ.out.below' (by rw [← HH.out]; exact HB3.out.trans (HT4.out.2.mono HHL.out))) (by have := HM.out; omega)
      have HKP : Hid (Kp { mq1 with left := N, keep := ks } ⟨0, 0, ⟨1, [], []⟩⟩ 0 1000 1) := mq1_kp N (by omega) ks (by rw [HQ.out.len]; have := HM.out; omega)
      clear hN hN1 hN2
      refine hAr.mono ?_
      rintro e3 w5 ⟨rfl, hT5, hb5⟩
      clear hAr
      have hba1 := below_alloc w5 (.cells #[.string ⟨#[]⟩] 9)
      obtain ⟨w6, Hw6⟩ : ∃ z, Hid (z = w5.alloc (.cells #[.string ⟨#[]⟩] 9)) := ⟨_, rfl⟩
      have hO1 : OwG 9 w6 L (some ⟨w5.heap.size, 0, none⟩) 1 1 (strs [[]]) := by rw [Hw6.out]; exact OwG.made 9 w5 L (.string ⟨#[]⟩) hT5.o.lw
      rw [← Hw6.out] at hba1
      have hba2 := below_alloc w6 (.cells #[.slice none 0 0] 49)
      obtain ⟨w7, Hw7⟩ : ∃ z, Hid (z = w6.alloc (.cells #[.slice none 0 0] 49)) := ⟨_, rfl⟩
      have hO2 : OwG 49 w7 L (some ⟨w6.heap.size, 0, none⟩) 1 1 [.slice none 0 0] := by rw [Hw7.out]; exact OwG.made 49 w6 L (.slice none 0 0) (Nat.le_trans hT5.o.lw hba1.size)
      rw [← Hw7.out] at hba2
      have hba := hba1.trans (hba2.mono hba1.size)
      have hlt1 : w6.heap.size = w5.heap.size + 1 := by rw [Hw6.out]; simp
      have hlt2 : w6.heap.size < w7.heap.size := by rw [Hw7.out]; simp
      have HI7 : Hid (KI w3 w7 L g gt (lawO own4 w5.heap.size w7.heap.size) ls 0 { mq1 with left := N, keep := ks } ⟨0, 0, ⟨1, [], []⟩⟩ 0 0 (some ⟨w5.heap.size, 0, none⟩) 1 [[]] (some ⟨w5.heap.size + 1, 0, none⟩) 1 [.slice none 0 0] none 0) :=
        ⟨hT5.law hba, HKP.out, Nat.zero_le _, ⟨hO1.below hba2, by rw [← hlt1]; exact hO2, rfl, OwG.empty _ _ _, (fun x e _ => by cases e; exact lawO_in (Nat.le_refl _) (by show w5.heap.size < w7.heap.size; omega)), (fun x e _ => by cases e; exact lawO_in (by show w5.heap.size ≤ w5.heap.size + 1; omega) (by show w5.heap.size + 1 < w7.heap.size; omega)), (fun x e => by cases e), (fun x y e => by cases e)⟩, rfl, Nat.le_refl _, (HT4.out.2.trans hb5).trans (hba.mono hT5.o.lw)⟩
      obtain ⟨b5, Hb5⟩ : ∃ z, Hid (z = w5.heap.size) := ⟨_, rfl⟩
      rw [← Hb5.out] at HI7
      clear hT5 hb5 hba1 hba2 hba hO1 hO2 hlt1 hlt2 HKP HT4
      go_wp2_with fail
      rw [← Hw6.out, ← Hw7.out, ← Hb5.out]
      go_loopw [10, 11, 12, 13, 57] (fun vb vr vk vd ix wr => ∃ (jj : Nat) (ow : Nat → Nat) (mm : PD) (tt : TP) (kk nk : Nat) (pb : Option Addr) (cb : Nat) (us : List (List Int)) (pr : Option Addr) (cr : Nat) (vs : List Value) (pl : Option Addr) (cl : Nat), jj ≤ n ∧ ix = .int .i64 jj ∧ vb = .slice pb (nk + 1) cb ∧ vr = .slice pr (nk + 1) cr ∧ vk = .int .i64 kk ∧ vd = .bool false ∧ KI w3 wr L g gt ow ls jj mm tt kk nk pb cb us pr cr vs pl cl) (fun _ _ _ _ ix _ => n - (intOf ix).toNat)
      case atStart => exact ⟨0, _, _, _, 0, 0, _, 1, _, _, 1, _, none, 0, Nat.zero_le _, rfl, rfl, rfl, rfl, rfl, HI7.out⟩
      case round =>
        obtain ⟨jj, ow, mm, tt, kk, nk, pb, cb, us, pr, cr, vs, pl, cl, hjj, rfl, rfl, rfl, rfl, rfl, hI⟩ := hrel
        by_cases hjn : jj < n
        · have hji : (jj : Int) < (n : Int) := by omega
          obtain ⟨lb_, lo_, rfl, hcl⟩ := HL.out.cells (by omega)
          have hbw : Below H w wr := HB3.out.trans (hI.bel.mono HHL.out)
          have hat := (hcl jj hjn).below hbw (by rw [HH.out]; exact World.block_lt_of_cell? _ _ (hcl jj hjn).c0)
          have hrd := HL.out.rd jj hjn
          have hn60 := HN.out
          obtain ⟨x, Hx⟩ : ∃ z, Hid (z = ls.getD jj .z0) := ⟨_, rfl⟩
          rw [← Hx.out] at hat hrd
          have HSz : Hid (szT ls (jj + 1) = szT ls jj + x.sz ∧ szT ls (jj + 1) ≤ 16384 ∧ jj + 1 ≤ 60) := ⟨by rw [Hx.out]; rfl, Nat.le_trans (szT_mono ls n (jj + 1) (by omega)) HSZ.out, by omega⟩
          have HXL : Hid (x.bl = x.b.length ∧ x.ll = x.l.length ∧ x.bl ≤ 16384 ∧ x.ll ≤ 4096) := by
            have h1 := HSz.out
            have h2 : x.sz = min x.bl 16385 + min x.kl 16385 + lsz x.l x.ll := rfl
            have h3 := lsz_ge x.l x.ll
            exact ⟨hrd.b.len.symm, by rw [← hrd.v.len, hrd.s.1], by omega, by omega⟩
          have HCO : Hid (lsz x.l x.l.length ≤ 16384 ∧ x.b.length + lsz x.l x.l.length ≤ x.sz) := by
            have h1 := HSz.out
            have h2 : x.sz = min x.bl 16385 + min x.kl 16385 + lsz x.l x.ll := rfl
            have h4 := HXL.out
            rw [← h4.2.1, ← h4.1]
            exact ⟨by omega, by omega⟩
          have hLw := hI.ts.o.lw
          have hbx := below_alloc wr (.cells #[.int .i64 x.op, .int .i64 x.n, .slice x.bq x.bl x.bc, .slice x.lq x.ll x.lc, .slice x.kq x.kl x.kc] 52)
          have hAx := At.new 52 wr #[.int .i64 x.op, .int .i64 x.n, .slice x.bq x.bl x.bc, .slice x.lq x.ll x.lc, .slice x.kq x.kl x.kc]
          obtain ⟨bx0, Hbx0⟩ : ∃ z, Hid (z = wr.heap.size) := ⟨_, rfl⟩
          obtain ⟨wb, Hwb⟩ : ∃ z, Hid (z = wr.alloc (.cells #[.int .i64 x.op, .int .i64 x.n, .slice x.bq x.bl x.bc, .slice x.lq x.ll x.lc, .slice x.kq x.kl x.kc] 52)) := ⟨_, rfl⟩
          rw [← Hwb.out] at hbx hAx
          rw [← Hbx0.out] at hAx
          have HI : Hid (KI w3 wb L g gt ow ls jj mm tt kk nk pb cb us pr cr vs pl cl) := hI.below hbx
          have HAX : Hid (At 52 wb bx0 #[.int .i64 x.op, .int .i64 x.n, .slice x.bq x.bl x.bc, .slice x.lq x.ll x.lc, .slice x.kq x.kl x.kc] ∧ Fg2 ow g bx0) := ⟨hAx, by rw [Hbx0.out]; exact hI.ts.new2 (Nat.le_refl _)⟩
          have HBW : Hid (Below H w wb) := hbw.trans (hbx.mono (Nat.le_trans HHL.out hLw))
          have HTR : Hid (TSx wr L 0 g gt ow mm tt ∧ Below wr.heap.size wr wb) := ⟨hI.ts, hbx⟩
          have HRD : Hid (x.rd w) := hrd
          have HRF : Hid (tt.r.recs.length ≤ 100000) := by have h1 := hI.few; have h2 := HSz.out; show _ ≤ _; omega
          have HNK : Hid (nk ≤ 100) := by have h1 := hI.nkj; have h2 := HSz.out.2.2; show _ ≤ _; omega
          have HS : Hid (1000 + 100 * jj + 4 * szT ls jj ≤ 80000) := by have h2 := HSz.out; show _ ≤ _; omega
          obtain ⟨c0, c1, c2, c3, c4⟩ := hat
          clear hI hcl hbw hrd hbx hAx hLw
          cases h4 : (bits BinOp.and IntKind.i64 x.op 7 == 4) with
          | true =>
            have hC := Sync_S2 wb L 0 g gt ow mm tt _ (by decide) HI.out.ts ⟨HI.out.kp.ok, HI.out.kp.up⟩ (by have := HS.out; omega) HI.out.kp.file
            obtain ⟨br, or_, hpr, hcr⟩ := HI.out.kr.rs.rd.cells (Nat.succ_pos _)
            have HPR : Hid (pr = some ⟨br, or_, none⟩) := hpr
            have hnk60 : nk ≤ 100 := HNK.out
            clear hcr hpr
            rcases HI.out.kp.sync (by have := HSz.out; omega) (by have := HS.out; omega) with ⟨hz, hkp, hr⟩ | ⟨hz, hgot⟩
            · skip
              as_aux_lemma =>
                rw [hz] at hC
                have HKP : Hid (Kp (syT mm tt).2.1 (syT mm tt).2.2 tt.r.recs.length (1000 + 100 * jj + 4 * szT ls jj) (1 + jj) ∧ (syT mm tt).2.2.r = tt.r) := ⟨hkp, hr⟩
                clear hz hkp hr
                rw [HPR.out]
                go_wp2_with fail
                rw [← Hwb.out]
                refine hC.mono ?_
                rintro e3 w6 ⟨rfl, ow6, hT6, ho6, hc6⟩
                clear hC
                have hK6 := HI.out.kr.op HI.out.ts.og hc6 ho6
                obtain ⟨br2, or2, hpr2, hcr2⟩ := hK6.rs.rd.cells (Nat.succ_pos _)
                rw [HPR.out] at hpr2
                cases hpr2
                have hcr1 := hcr2 nk (Nat.lt_succ_self _)
                rw [hK6.lv] at hcr1
                have HI6 : Hid (KI w3 w6 L g gt ow6 ls (jj + 1) (syT mm tt).2.1 (syT mm tt).2.2 tt.r.recs.length nk pb cb us pr cr vs pl cl) := by
                  have h9 : KI w3 w6 L g gt ow6 ls jj (syT mm tt).2.1 (syT mm tt).2.2 tt.r.recs.length nk pb cb us pr cr vs pl cl := ⟨hT6, HKP.out.1, by rw [HKP.out.2]; exact HI.out.few, by rw [HKP.out.2]; exact hK6, by rw [HKP.out.2]; exact HI.out.lb, HI.out.nkj, HI.out.bel.trans (hc6.lowB2 HI.out.ts)⟩
                  exact h9.skip
                obtain ⟨nR, HnR⟩ : ∃ z, Hid (z = tt.r.recs.length) := ⟨_, rfl⟩
                rw [← HnR.out] at hcr1 HI6
                clear hT6 ho6 hc6 hK6 hcr2 HKP
                go_wp2_with fail
                go_roundw
                case rel => exact ⟨jj + 1, ow6, _, _, nR, nk, pb, cb, us, pr, cr, vs, pl, cl, by omega, by go_num, rfl, by rw [HPR.out], rfl, rfl, HI6.out⟩
                case measure => simp [intOf]; omega
            · skip
              as_aux_lemma =>
                rw [hz] at hC
                have HG : Hid (Got (onM (syT mm tt).2.1) tt.r.base tt.r.recs kk) := hgot
                clear hz hgot
                have h5 : (bits BinOp.and IntKind.i64 x.op 7 == 5) = false := by have h9 := eq_of_beq h4; rw [h9]; rfl
                go_wp2_with fail
                rw [← Hwb.out]
                refine hC.mono ?_
                rintro e3 w6 ⟨rfl, ow6, hT6, ho6, hc6⟩
                clear hC
                have HK6 : Hid (KR w6 ow6 L nk pb cb us pr cr vs pl cl tt.r.recs) := HI.out.kr.op HI.out.ts.og hc6 ho6
                have HB6 : Hid (Below L w3 w6) := HI.out.bel.trans (hc6.lowB2 HI.out.ts)
                have hAx6 := HAX.out.1.ch hc6 (fun e => e HAX.out.2)
                have cx0 := hAx6.cell 0
                have hD6 := hT6.ds
                have HLB : Hid (us.getD nk [] = tt.r.base) := HI.out.lb
                have HRF : Hid (tt.r.recs.length ≤ 1099511627776) := by have := HRF.out; show _ ≤ _; omega
                rw [Hbx0.out] at cx0
                clear hT6 ho6 hc6 hAx6
                obtain ⟨dz, hDz⟩ := hD6
                have hRe := reopened_any w6 L g ow6 dz _ hDz tt.r.base tt.r.recs kk HG.out
                have HOG : Hid (ow6 g = 0 ∧ L ≤ w6.heap.size ∧ ∀ k, k < L → Fg2 ow6 g k) := ⟨hDz.da.og, hDz.lw, fun k hk => ⟨Or.inl (hDz.low k hk), by have := hDz.lg; omega⟩⟩
                clear hDz
                go_wp2_with fail
                refine hRe.mono ?_
                rintro e5 w10 ⟨pz, iz, cq, rfl, hi1, hi2, hrv, hch⟩
                clear hRe
                have hK10 := (HK6.out).op HOG.out.1 hch (fun _ _ => rfl)
                have hB10 : Below L w6 w10 := hch.lowL HOG.out.2.1 (fun k hk e => e (HOG.out.2.2 k hk))
                have HB10 : Hid (Below L w3 w10) := (HB6.out).trans hB10
                have HL10 : Hid (L ≤ w10.heap.size) := Nat.le_trans HOG.out.2.1 hch.size
                obtain ⟨bx, Hbx⟩ : ∃ z, Hid (z = w10.heap.size) := ⟨_, rfl⟩
                have hba := below_alloc w10 (.cells #[.pointer none, .int .i64 0, .string (strOfNums tt.r.base), .slice pz iz cq, .int .i64 0, .int .i64 0] 59)
                have hAt := At.new 59 w10 #[.pointer none, .int .i64 0, .string (strOfNums tt.r.base), .slice pz iz cq, .int .i64 0, .int .i64 0]
                rw [← Hbx.out] at hAt
                obtain ⟨w11, Hw11⟩ : ∃ z, Hid (z = w10.alloc (.cells #[.pointer none, .int .i64 0, .string (strOfNums tt.r.base), .slice pz iz cq, .int .i64 0, .int .i64 0] 59)) := ⟨_, rfl⟩
                rw [← Hw11.out] at hba hAt
                have hK11 := hK10.below hba
                have HB11 : Hid (Below L w3 w11) := HB10.out.trans (hba.mono HL10.out)
                have HL11 : Hid (L ≤ w11.heap.size) := Nat.le_trans HL10.out hba.size
                obtain ⟨sB, HsB⟩ : ∃ z, Hid (z = strOfNums tt.r.base) := ⟨_, rfl⟩
                have HCb : Hid (w11.cell? ⟨bx, 2, none⟩ = some (.string sB)) := by rw [HsB.out]; exact hAt.cell 2
                have HCl : Hid (w11.cell? ⟨bx, 3, none⟩ = some (.slice pz iz cq)) := hAt.cell 3
                have HIJ : Hid (kk ≤ iz ∧ iz ≤ (tt.r.recs).length) := ⟨hi1, hi2⟩
                have HRV : Hid (∀ V, Bl w11 V → RdV V pz iz cq (txt (txb ((tt.r.recs).take iz)))) := fun V h => (hrv.below hba).below (Bl.out' h)
                have HK11 : Hid (KR w11 ow6 L nk pb cb us pr cr vs pl cl tt.r.recs) := hK11
                clear hK10 hK11 hB10 hch hrv hi1 hi2 hba hAt HB10 HL10 HOG
                obtain ⟨bb, ob, hpb, hcb⟩ := HK11.out.bs.rd.cells (Nat.succ_pos _)
                obtain ⟨br, or_, hpr, hcr⟩ := HK11.out.rs.rd.cells (Nat.succ_pos _)
                have hcb1 := hcb nk (Nat.lt_succ_self _)
                have hcr1 := hcr nk (Nat.lt_succ_self _)
                rw [HK11.out.lv] at hcr1
                rw [kstrs_getD (by have := HK11.out.bs.len; rw [kstrs_len] at this; omega), HLB.out] at hcb1
                have HBb : Hid (w11.cell? ⟨bb, ob + nk, none⟩ = some (.string sB)) := by rw [HsB.out]; exact hcb1
                have HRr : Hid (w11.cell? ⟨br, or_ + nk, none⟩ = some (.slice pl (tt.r.recs).length cl)) := hcr1
                have HLV : Hid (∀ V, Bl w11 V → RdV V pl (tt.r.recs).length cl (txt (txb tt.r.recs))) := fun V h => by rw [← strs_txb]; exact HK11.out.lr.rd.below (Bl.out' h)
                have HPB : Hid (pb = some ⟨bb, ob, none⟩ ∧ pr = some ⟨br, or_, none⟩) := ⟨hpb, hpr⟩
                rw [HPB.out.1, HPB.out.2]
                have hnk1 : (nk : Int) < ((nk + 1 : Nat) : Int) := by omega
                have hnk60 : nk ≤ 100 := HNK.out
                obtain ⟨nR, HnR⟩ : ∃ z, Hid (z = (tt.r.recs).length) := ⟨_, rfl⟩
                rw [← HnR.out] at HRr
                clear hcb hcr hcb1 hcr1 hpb hpr
                go_wp2_with fail
                rw [← Hw11.out, ← HsB.out, ← Hbx.out]
                have hS8 : Bl w11 w11.drew := (Below.refl _ _).drew
                refine wp_region_dyn [0, 1, 2, 3, 4, 5, 6, 7, 8, 9, 10, 11, 12, 13, 14, 15, 16, 17, 18, 20, 21, 23, 24] (Bl w11) (Bl w11) (by kernel_rfl) hS8 ?_
                clear hS8
                refine wpDyn_take ?vT1x0 (Bl.stays w11) (fun _ h => h) (i := 0) rfl (by kernel_rfl) (by kernel_rfl) (by kernel_rfl) (by kernel_rfl) (by kernel_rfl) (fun _ _ _ h => h) (Gives.value (by rfl) ?yT1x0) ?rT1x0
                case yT1x0 => (intro w' hSw; go_simp; try with_reducible rfl)
                (try simp only [Act.put, List.getElem_toArray, List.getElem_cons_zero, List.getElem_cons_succ, List.setIfInBounds_toArray, List.set_cons_zero, List.set_cons_succ])
                refine wpDyn_take ?vT1x1 (Bl.stays w11) (fun _ h => h) (i := 1) rfl (by kernel_rfl) (by kernel_rfl) (by kernel_rfl) (by kernel_rfl) (by kernel_rfl) (fun _ _ _ h => h) (Gives.value (by rfl) ?yT1x1) ?rT1x1
                case yT1x1 => (intro w' hSw; go_simp; try with_reducible rfl)
                (try simp only [Act.put, List.getElem_toArray, List.getElem_cons_zero, List.getElem_cons_succ, List.setIfInBounds_toArray, List.set_cons_zero, List.set_cons_succ])
                refine wpDyn_take ?vT1x2 (Bl.stays w11) (fun _ h => h) (i := 2) rfl (by kernel_rfl) (by kernel_rfl) (by kernel_rfl) (by kernel_rfl) (by kernel_rfl) (fun _ _ _ h => h) (Gives.value (by rfl) ?yT1x2) ?rT1x2
                case yT1x2 => (intro w' hSw; go_simp; try with_reducible rfl)
                (try simp only [Act.put, List.getElem_toArray, List.getElem_cons_zero, List.getElem_cons_succ, List.setIfInBounds_toArray, List.set_cons_zero, List.set_cons_succ])
                refine wpDyn_take ?vT1x3 (Bl.stays w11) (fun _ h => h) (i := 3) rfl (by kernel_rfl) (by kernel_rfl) (by kernel_rfl) (by kernel_rfl) (by kernel_rfl) (fun _ _ _ h => h) (Gives.value (by rfl) ?yT1x3) ?rT1x3
                case yT1x3 => (intro w' hSw; go_simp; try with_reducible rfl)
                (try simp only [Act.put, List.getElem_toArray, List.getElem_cons_zero, List.getElem_cons_succ, List.setIfInBounds_toArray, List.set_cons_zero, List.set_cons_succ])
                refine wpDyn_take ?vT1x4 (Bl.stays w11) (fun _ h => h) (i := 4) rfl (by kernel_rfl) (by kernel_rfl) (by kernel_rfl) (by kernel_rfl) (by kernel_rfl) (fun _ _ _ h => h) (Gives.value (by rfl) ?yT1x4) ?rT1x4
                case yT1x4 => (intro w' hSw; have hcl := cell_below (Bl.out' hSw) HCb.out; clear hSw; go_simp; try with_reducible rfl)
                (try simp only [Act.put, List.getElem_toArray, List.getElem_cons_zero, List.getElem_cons_succ, List.setIfInBounds_toArray, List.set_cons_zero, List.set_cons_succ])
                refine wpDyn_take ?vT1x5 (Bl.stays w11) (fun _ h => h) (i := 5) rfl (by kernel_rfl) (by kernel_rfl) (by kernel_rfl) (by kernel_rfl) (by kernel_rfl) (fun _ _ _ h => h) (Gives.value (by rfl) ?yT1x5) ?rT1x5
                case yT1x5 => (intro w' hSw; go_simp; try with_reducible rfl)
                (try simp only [Act.put, List.getElem_toArray, List.getElem_cons_zero, List.getElem_cons_succ, List.setIfInBounds_toArray, List.set_cons_zero, List.set_cons_succ])
                refine wpDyn_take ?vT1x6 (Bl.stays w11) (fun _ h => h) (i := 6) rfl (by kernel_rfl) (by kernel_rfl) (by kernel_rfl) (by kernel_rfl) (by kernel_rfl) (fun _ _ _ h => h) (Gives.value (by rfl) ?yT1x6) ?rT1x6
                case yT1x6 => (intro w' hSw; go_simp; try with_reducible rfl)
                (try simp only [Act.put, List.getElem_toArray, List.getElem_cons_zero, List.getElem_cons_succ, List.setIfInBounds_toArray, List.set_cons_zero, List.set_cons_succ])
                refine wpDyn_take (.pointer (some ⟨bb, ob + nk, none⟩)) (Bl.stays w11) (fun _ h => h) (i := 7) rfl (by kernel_rfl) (by kernel_rfl) (by kernel_rfl) (by kernel_rfl) (by kernel_rfl) (fun _ _ _ h => h) (Gives.value (by rfl) ?yT1x7) ?rT1x7
                case yT1x7 => (intro w' hSw; go_simp; try (intro hx; exfalso; omega))
                (try simp only [Act.put, List.getElem_toArray, List.getElem_cons_zero, List.getElem_cons_succ, List.setIfInBounds_toArray, List.set_cons_zero, List.set_cons_succ])
                refine wpDyn_take ?vT1x8 (Bl.stays w11) (fun _ h => h) (i := 8) rfl (by kernel_rfl) (by kernel_rfl) (by kernel_rfl) (by kernel_rfl) (by kernel_rfl) (fun _ _ _ h => h) (Gives.value (by rfl) ?yT1x8) ?rT1x8
                case yT1x8 => (intro w' hSw; have hcl := cell_below (Bl.out' hSw) HBb.out; clear hSw; go_simp; try with_reducible rfl)
                (try simp only [Act.put, List.getElem_toArray, List.getElem_cons_zero, List.getElem_cons_succ, List.setIfInBounds_toArray, List.set_cons_zero, List.set_cons_succ])
                refine wpDyn_take ?vT1x9 (Bl.stays w11) (fun _ h => h) (i := 9) rfl (by kernel_rfl) (by kernel_rfl) (by kernel_rfl) (by kernel_rfl) (by kernel_rfl) (fun _ _ _ h => h) (Gives.value (by rfl) ?yT1x9) ?rT1x9
                case yT1x9 => (intro w' hSw; go_simp; try with_reducible rfl)
                (try simp only [Act.put, List.getElem_toArray, List.getElem_cons_zero, List.getElem_cons_succ, List.setIfInBounds_toArray, List.set_cons_zero, List.set_cons_succ])
                refine wpDyn_take ?vT1x10 (Bl.stays w11) (fun _ h => h) (i := 10) rfl (by kernel_rfl) (by kernel_rfl) (by kernel_rfl) (by kernel_rfl) (by kernel_rfl) (fun _ _ _ h => h) (Gives.value (by rfl) ?yT1x10) ?rT1x10
                case yT1x10 => (intro w' hSw; go_simp; try with_reducible rfl)
                (try simp only [Act.put, List.getElem_toArray, List.getElem_cons_zero, List.getElem_cons_succ, List.setIfInBounds_toArray, List.set_cons_zero, List.set_cons_succ])
                refine wpDyn_take ?vT1x11 (Bl.stays w11) (fun _ h => h) (i := 11) rfl (by kernel_rfl) (by kernel_rfl) (by kernel_rfl) (by kernel_rfl) (by kernel_rfl) (fun _ _ _ h => h) (Gives.value (by rfl) ?yT1x11) ?rT1x11
                case yT1x11 => (intro w' hSw; go_simp; try with_reducible rfl)
                (try simp only [Act.put, List.getElem_toArray, List.getElem_cons_zero, List.getElem_cons_succ, List.setIfInBounds_toArray, List.set_cons_zero, List.set_cons_succ])
                refine wpDyn_take ?vT1x12 (Bl.stays w11) (fun _ h => h) (i := 12) rfl (by kernel_rfl) (by kernel_rfl) (by kernel_rfl) (by kernel_rfl) (by kernel_rfl) (fun _ _ _ h => h) (Gives.value (by rfl) ?yT1x12) ?rT1x12
                case yT1x12 => (intro w' hSw; go_simp; try with_reducible rfl)
                (try simp only [Act.put, List.getElem_toArray, List.getElem_cons_zero, List.getElem_cons_succ, List.setIfInBounds_toArray, List.set_cons_zero, List.set_cons_succ])
                refine wpDyn_take ?vT1x13 (Bl.stays w11) (fun _ h => h) (i := 13) rfl (by kernel_rfl) (by kernel_rfl) (by kernel_rfl) (by kernel_rfl) (by kernel_rfl) (fun _ _ _ h => h) (Gives.value (by rfl) ?yT1x13) ?rT1x13
                case yT1x13 => (intro w' hSw; have hcl := cell_below (Bl.out' hSw) HCl.out; clear hSw; go_simp; try with_reducible rfl)
                (try simp only [Act.put, List.getElem_toArray, List.getElem_cons_zero, List.getElem_cons_succ, List.setIfInBounds_toArray, List.set_cons_zero, List.set_cons_succ])
                refine wpDyn_take ?vT1x14 (Bl.stays w11) (fun _ h => h) (i := 14) rfl (by kernel_rfl) (by kernel_rfl) (by kernel_rfl) (by kernel_rfl) (by kernel_rfl) (fun _ _ _ h => h) (Gives.value (by rfl) ?yT1x14) ?rT1x14
                case yT1x14 => (intro w' hSw; go_simp; try with_reducible rfl)
                (try simp only [Act.put, List.getElem_toArray, List.getElem_cons_zero, List.getElem_cons_succ, List.setIfInBounds_toArray, List.set_cons_zero, List.set_cons_succ])
                refine wpDyn_take ?vT1x15 (Bl.stays w11) (fun _ h => h) (i := 15) rfl (by kernel_rfl) (by kernel_rfl) (by kernel_rfl) (by kernel_rfl) (by kernel_rfl) (fun _ _ _ h => h) (Gives.value (by rfl) ?yT1x15) ?rT1x15
                case yT1x15 => (intro w' hSw; go_simp; try with_reducible rfl)
                (try simp only [Act.put, List.getElem_toArray, List.getElem_cons_zero, List.getElem_cons_succ, List.setIfInBounds_toArray, List.set_cons_zero, List.set_cons_succ])
                refine wpDyn_take (.pointer (some ⟨br, or_ + nk, none⟩)) (Bl.stays w11) (fun _ h => h) (i := 16) rfl (by kernel_rfl) (by kernel_rfl) (by kernel_rfl) (by kernel_rfl) (by kernel_rfl) (fun _ _ _ h => h) (Gives.value (by rfl) ?yT1x16) ?rT1x16
                case yT1x16 => (intro w' hSw; go_simp; try (intro hx; exfalso; omega))
                (try simp only [Act.put, List.getElem_toArray, List.getElem_cons_zero, List.getElem_cons_succ, List.setIfInBounds_toArray, List.set_cons_zero, List.set_cons_succ])
                refine wpDyn_take ?vT1x17 (Bl.stays w11) (fun _ h => h) (i := 17) rfl (by kernel_rfl) (by kernel_rfl) (by kernel_rfl) (by kernel_rfl) (by kernel_rfl) (fun _ _ _ h => h) (Gives.value (by rfl) ?yT1x17) ?rT1x17
                case yT1x17 => (intro w' hSw; have hcl := cell_below (Bl.out' hSw) HRr.out; clear hSw; go_simp; try with_reducible rfl)
                (try simp only [Act.put, List.getElem_toArray, List.getElem_cons_zero, List.getElem_cons_succ, List.setIfInBounds_toArray, List.set_cons_zero, List.set_cons_succ])
                refine wpDyn_take ?vT1x18 (Bl.stays w11) (fun _ h => h) (i := 18) rfl (by kernel_rfl) (by kernel_rfl) (by kernel_rfl) (by kernel_rfl) (by kernel_rfl) (fun _ _ _ h => h) (Gives.value (by rfl) ?yT1x18) ?rT1x18
                case yT1x18 => (intro w' hSw; go_simp; try with_reducible rfl)
                (try simp only [Act.put, List.getElem_toArray, List.getElem_cons_zero, List.getElem_cons_succ, List.setIfInBounds_toArray, List.set_cons_zero, List.set_cons_succ])
                refine wpDyn_ready (rs := [19]) (by kernel_rfl) (by simp) (AllDyn.cons rfl (fun V hV K hK => ?_) AllDyn.nil)
                rw [if_pos (by rfl)]
                have hC := between_any pz pl iz cq nR cl kk (txb tt.r.recs) V (by have h := HRV.out V hV; unfold txb at h ⊢; rw [← List.map_take]; exact h) (by rw [HnR.out]; exact HLV.out V hV) HIJ.out.1 (by rw [HnR.out]; exact HIJ.out.2) (by rw [HnR.out]; exact HRF.out)
                refine wp_enterX 27 #[.slice pz iz cq, .slice pl nR cl, .int .i64 kk] (by first | (go_simp; done) | (go_simp; rfl)) (fun v V' => v = .bool true ∧ Below V.heap.size V V') (hC.mono fun e V' ⟨h1, h2⟩ => ⟨_, h1, rfl, h2⟩) ?_
                rintro v V1 ⟨rfl, hb⟩
                refine hK.out (Bl w11) _ _ (Bl.stays w11) (fun _ _ h => h) (Bl.stays w11 _ _ hV hb) ?_
                clear hK K hV hC hb
                (try simp only [Act.put, List.getElem_toArray, List.getElem_cons_zero, List.getElem_cons_succ, List.setIfInBounds_toArray, List.set_cons_zero, List.set_cons_succ])
                refine wpDyn_take ?vT1x20 (Bl.stays w11) (fun _ h => h) (i := 20) rfl (by kernel_rfl) (by kernel_rfl) (by kernel_rfl) (by kernel_rfl) (by kernel_rfl) (fun _ _ _ h => h) (Gives.value (by rfl) ?yT1x20) ?rT1x20
                case yT1x20 => (intro w' hSw; go_simp; try with_reducible rfl)
                (try simp only [Act.put, List.getElem_toArray, List.getElem_cons_zero, List.getElem_cons_succ, List.setIfInBounds_toArray, List.set_cons_zero, List.set_cons_succ])
                refine wpDyn_take ?vT1x21 (Bl.stays w11) (fun _ h => h) (i := 21) rfl (by kernel_rfl) (by kernel_rfl) (by kernel_rfl) (by kernel_rfl) (by kernel_rfl) (fun _ _ _ h => h) (Gives.value (by rfl) ?yT1x21) ?rT1x21
                case yT1x21 => (intro w' hSw; go_simp; try with_reducible rfl)
                (try simp only [Act.put, List.getElem_toArray, List.getElem_cons_zero, List.getElem_cons_succ, List.setIfInBounds_toArray, List.set_cons_zero, List.set_cons_succ])
                refine wpDyn_ready (rs := [22]) (by kernel_rfl) (by simp) (AllDyn.cons rfl (fun V hV K hK => ?_) AllDyn.nil)
                rw [if_pos (by rfl)]
                have hC := awake_any V
                refine wp_enterX 8 #[] (by first | (go_simp; done) | (go_simp; rfl)) (fun v V' => v = .bool true ∧ Below V.heap.size V V') (hC.mono fun e V' ⟨h1, h2⟩ => ⟨_, h1, rfl, h2⟩) ?_
                rintro v V1 ⟨rfl, hb⟩
                refine hK.out (Bl w11) _ _ (Bl.stays w11) (fun _ _ h => h) (Bl.stays w11 _ _ hV hb) ?_
                clear hK K hV hC hb
                (try simp only [Act.put, List.getElem_toArray, List.getElem_cons_zero, List.getElem_cons_succ, List.setIfInBounds_toArray, List.set_cons_zero, List.set_cons_succ])
                refine wpDyn_take ?vT1x23 (Bl.stays w11) (fun _ h => h) (i := 23) rfl (by kernel_rfl) (by kernel_rfl) (by kernel_rfl) (by kernel_rfl) (by kernel_rfl) (fun _ _ _ h => h) (Gives.value (by rfl) ?yT1x23) ?rT1x23
                case yT1x23 => (intro w' hSw; go_simp; try with_reducible rfl)
                (try simp only [Act.put, List.getElem_toArray, List.getElem_cons_zero, List.getElem_cons_succ, List.setIfInBounds_toArray, List.set_cons_zero, List.set_cons_succ])
                refine wpDyn_take ?vT1x24 (Bl.stays w11) (fun _ h => h) (i := 24) rfl (by kernel_rfl) (by kernel_rfl) (by kernel_rfl) (by kernel_rfl) (by kernel_rfl) (fun _ _ _ h => h) (Gives.value (by rfl) ?yT1x24) ?rT1x24
                case yT1x24 => (intro w' hSw; go_simp; try with_reducible rfl)
                (try simp only [Act.put, List.getElem_toArray, List.getElem_cons_zero, List.getElem_cons_succ, List.setIfInBounds_toArray, List.set_cons_zero, List.set_cons_succ])
                refine wpDyn_done (by kernel_rfl) (fun W2 hW2 => ?_) _
                have HB99 : Hid (Below H w W2) := HB3.out.trans ((HB11.out.trans ((Bl.out' hW2).mono HL11.out)).mono HHL.out)
                clear hW2
                go_wp2_with fail
                go_ret
                exact ⟨rfl, by have h := HB99.out; rw [HH.out] at h; exact h⟩
          | false =>
            cases h5 : (bits BinOp.and IntKind.i64 x.op 7 == 5) with
            | true =>
              have hbw1 := HBW.out
              rw [HH.out] at hbw1
              have hC := Save_T2 wb L 0 g gt ow mm tt _ (by decide) HI.out.ts ⟨HI.out.kp.ok, HI.out.kp.up⟩ (by have := HS.out; omega) HI.out.kp.file (by have := HI.out.kp.gen; omega) x.bq x.bl x.bc x.b (HRD.out.b.below' hbw1) HRD.out.y x.lq x.ll x.lc x.us x.l (HRD.out.v.below hbw1) (HRD.out.s.below hbw1) HXL.out.2.1 (by have := HXL.out; omega) (all_getD HRD.out.z)
              have hnk60 : nk ≤ 100 := HNK.out
              clear hbw1
              rcases HI.out.kp.save HRD.out.y HRD.out.z (by have := HXL.out; omega) (by have := HSz.out; omega) (S2 := 1000 + 100 * (jj + 1) + 4 * szT ls (jj + 1)) (by have := HSz.out; omega) (by have := HSz.out; omega) (by
                  have h1 := sealR_cost (g := tt.r.gen + 1) (base := x.b) (l := x.l) (by have := HI.out.kp.gen; have := HSz.out; omega) HCO.out.1 (by have := HXL.out; omega)
                  have h2 := HCO.out
                  have h3 := HSz.out
                  omega) with ⟨hz, hkp, hr⟩ | ⟨hz, hgot⟩ | ⟨hz0, hz50, hkp, ht⟩
              · skip
                as_aux_lemma =>
                  rw [hz] at hC
                  have HKP : Hid (Kp (svT mm tt x.b x.l).2.1 (svT mm tt x.b x.l).2.2 x.l.length (1000 + 100 * (jj + 1) + 4 * szT ls (jj + 1)) (1 + jj + 1) ∧ (svT mm tt x.b x.l).2.2.r = ⟨tt.r.gen + 1, x.b, x.l⟩) := ⟨hkp, hr⟩
                  clear hz hkp hr
                  go_wp2_with fail
                  rw [← Hwb.out]
                  refine hC.mono ?_
                  rintro e3 w6 ⟨rfl, ow6, hT6, ho6, hc6⟩
                  clear hC
                  have HK6 : Hid (KR w6 ow6 L nk pb cb us pr cr vs pl cl tt.r.recs) := HI.out.kr.op HI.out.ts.og hc6 ho6
                  have HB6 : Hid (Below L w3 w6) := HI.out.bel.trans (hc6.lowB2 HI.out.ts)
                  have hAx6 := HAX.out.1.ch hc6 (fun e => e HAX.out.2)
                  have HAX6 : Hid (At 52 w6 bx0 #[.int .i64 x.op, .int .i64 x.n, .slice x.bq x.bl x.bc, .slice x.lq x.ll x.lc, .slice x.kq x.kl x.kc] ∧ ow6 bx0 ≠ lawM) := ⟨hAx6, by rw [ho6 bx0 HAX.out.1.lt]; exact fun e => by rw [(show ow bx0 = 0 from by rw [Hbx0.out]; exact (HTR.out.1.new (Nat.le_refl _)).1)] at e; cases e⟩
                  have HT6 : Hid (TSx w6 L 0 g gt ow6 (svT mm tt x.b x.l).2.1 (svT mm tt x.b x.l).2.2) := hT6
                  have HL6 : Hid (L ≤ w6.heap.size) := hT6.o.lw
                  have HXB : Hid (Rd .u8 w6 x.bq x.bl x.bc x.b) := HRD.out.b.below' (by rw [← HH.out]; exact HB3.out.trans (HB6.out.mono HHL.out))
                  have HLM : Hid (∀ W, Ch (fun k => ow6 k = lawM) w6 W → Below L w3 W) := fun W h => HB6.out.trans (h.lowL HL6.out (fun k hk e => by have h8 : ow6 k = 0 := (HT6.out.old hk).1; rw [h8] at e; cases e))
                  have HXW : Hid (∀ W, Ch (fun k => ow6 k = lawM) w6 W → RdV W x.lq x.ll x.lc x.us ∧ Sls W x.us x.l) := fun W h => by
                    have h1 := HB3.out.trans ((HLM.out W h).mono HHL.out)
                    rw [HH.out] at h1
                    exact ⟨HRD.out.v.below h1, HRD.out.s.below h1⟩
                  have HCB : Hid (∀ W, Ch (fun k => ow6 k = lawM) w6 W → W.cell? ⟨bx0, 2, none⟩ = some (.slice x.bq x.bl x.bc)) := fun W h => (HAX6.out.1.ch h HAX6.out.2).cell 2
                  have HCL : Hid (∀ W, Ch (fun k => ow6 k = lawM) w6 W → W.cell? ⟨bx0, 3, none⟩ = some (.slice x.lq x.ll x.lc)) := fun W h => (HAX6.out.1.ch h HAX6.out.2).cell 3
                  have HXB2 : Hid (∀ W, Ch (fun k => ow6 k = lawM) w6 W → Rd .u8 W x.bq x.bl x.bc x.b) := fun W h => HRD.out.b.below' (by rw [← HH.out]; exact HB3.out.trans ((HLM.out W h).mono HHL.out))
                  clear hT6 ho6 hc6 hAx6
                  go_wp2_with fail
                  rw [← Hbx0.out]
                  have hS8 : Bl w6 w6.drew := (Below.refl _ _).drew
                  refine wp_region_dyn [0, 1, 2, 3, 6, 7, 8] (fun W => Ch (fun k => ow6 k = lawM) w6 W) (Bl w6) (by kernel_rfl) hS8 ?_
                  clear hS8
                  refine wpDyn_take ?vT2x0 (Bl.stays w6) (fun _ h => Ch.of_below (Bl.out' h) _) (i := 0) rfl (by kernel_rfl) (by kernel_rfl) (by kernel_rfl) (by kernel_rfl) (by kernel_rfl) (fun _ _ _ h => h) (Gives.value (by rfl) ?yT2x0) ?rT2x0
                  case yT2x0 => (intro w' hSw; clear hSw; go_simp; try with_reducible rfl)
                  (try simp only [Act.put, List.getElem_toArray, List.getElem_cons_zero, List.getElem_cons_succ, List.setIfInBounds_toArray, List.set_cons_zero, List.set_cons_succ])
                  refine wpDyn_take ?vT2x1 (Bl.stays w6) (fun _ h => Ch.of_below (Bl.out' h) _) (i := 1) rfl (by kernel_rfl) (by kernel_rfl) (by kernel_rfl) (by kernel_rfl) (by kernel_rfl) (fun _ _ _ h => h) (Gives.value (by rfl) ?yT2x1) ?rT2x1
                  case yT2x1 => (intro w' hSw; clear hSw; go_simp; try with_reducible rfl)
                  (try simp only [Act.put, List.getElem_toArray, List.getElem_cons_zero, List.getElem_cons_succ, List.setIfInBounds_toArray, List.set_cons_zero, List.set_cons_succ])
                  refine wpDyn_take ?vT2x2 (Bl.stays w6) (fun _ h => Ch.of_below (Bl.out' h) _) (i := 2) rfl (by kernel_rfl) (by kernel_rfl) (by kernel_rfl) (by kernel_rfl) (by kernel_rfl) (fun _ _ _ h => h) (Gives.value (by rfl) ?yT2x2) ?rT2x2
                  case yT2x2 => (intro w' hSw; have hcl := HCB.out w' hSw; clear hSw; go_simp; try with_reducible rfl)
                  (try simp only [Act.put, List.getElem_toArray, List.getElem_cons_zero, List.getElem_cons_succ, List.setIfInBounds_toArray, List.set_cons_zero, List.set_cons_succ])
                  refine wpDyn_take ?vT2x3 (Bl.stays w6) (fun _ h => Ch.of_below (Bl.out' h) _) (i := 3) rfl (by kernel_rfl) (by kernel_rfl) (by kernel_rfl) (by kernel_rfl) (by kernel_rfl) (fun _ _ _ h => h) (Gives.value (by rfl) ?yT2x3) ?rT2x3
                  case yT2x3 => (intro w' hSw; have hst := (HXB2.out w' hSw).str; clear hSw; go_simp; try with_reducible rfl)
                  (try simp only [Act.put, List.getElem_toArray, List.getElem_cons_zero, List.getElem_cons_succ, List.setIfInBounds_toArray, List.set_cons_zero, List.set_cons_succ])
                  refine wpDyn_take ?vT2x6 (Bl.stays w6) (fun _ h => Ch.of_below (Bl.out' h) _) (i := 6) rfl (by kernel_rfl) (by kernel_rfl) (by kernel_rfl) (by kernel_rfl) (by kernel_rfl) (fun _ _ _ h => h) (Gives.value (by rfl) ?yT2x6) ?rT2x6
                  case yT2x6 => (intro w' hSw; clear hSw; go_simp; try with_reducible rfl)
                  (try simp only [Act.put, List.getElem_toArray, List.getElem_cons_zero, List.getElem_cons_succ, List.setIfInBounds_toArray, List.set_cons_zero, List.set_cons_succ])
                  refine wpDyn_take ?vT2x7 (Bl.stays w6) (fun _ h => Ch.of_below (Bl.out' h) _) (i := 7) rfl (by kernel_rfl) (by kernel_rfl) (by kernel_rfl) (by kernel_rfl) (by kernel_rfl) (fun _ _ _ h => h) (Gives.value (by rfl) ?yT2x7) ?rT2x7
                  case yT2x7 => (intro w' hSw; clear hSw; go_simp; try with_reducible rfl)
                  (try simp only [Act.put, List.getElem_toArray, List.getElem_cons_zero, List.getElem_cons_succ, List.setIfInBounds_toArray, List.set_cons_zero, List.set_cons_succ])
                  refine wpDyn_take ?vT2x8 (Bl.stays w6) (fun _ h => Ch.of_below (Bl.out' h) _) (i := 8) rfl (by kernel_rfl) (by kernel_rfl) (by kernel_rfl) (by kernel_rfl) (by kernel_rfl) (fun _ _ _ h => h) (Gives.value (by rfl) ?yT2x8) ?rT2x8
                  case yT2x8 => (intro w' hSw; have hcl := HCL.out w' hSw; clear hSw; go_simp; try with_reducible rfl)
                  (try simp only [Act.put, List.getElem_toArray, List.getElem_cons_zero, List.getElem_cons_succ, List.setIfInBounds_toArray, List.set_cons_zero, List.set_cons_succ])
                  refine wpDyn_ready (rs := [4]) (by kernel_rfl) (by simp) (AllDyn.cons rfl (fun V hV K hK => ?_) AllDyn.nil)
                  rw [if_pos (by rfl)]
                  refine wp_value (.slice (some ⟨V.heap.size, 0, none⟩) 1 1) (V.alloc (.cells #[.string (strOfNums x.b)] 9)) (by first | (go_simp; done) | (go_simp; rfl)) ?_
                  have hb := below_alloc V (.cells #[.string (strOfNums x.b)] 9)
                  have hc4 : (V.alloc (.cells #[.string (strOfNums x.b)] 9)).cell? ⟨V.heap.size, 0, none⟩ = some (.string (strOfNums x.b)) := by simp
                  obtain ⟨b4, Hb4⟩ : ∃ z, Hid (z = V.heap.size) := ⟨_, rfl⟩
                  rw [← Hb4.out] at hc4 ⊢
                  refine hK.out (fun W => Bl w6 W ∧ W.cell? ⟨b4, 0, none⟩ = some (.string (strOfNums x.b))) _ _ (fun _ _ h hb => ⟨Bl.stays w6 _ _ h.1 hb, cell_below hb h.2⟩) (fun _ _ h => Ch.of_below (Bl.out' h.1) _) ⟨Bl.stays w6 _ _ hV hb, hc4⟩ ?_
                  clear hK K hV hb hc4
                  (try simp only [Act.put, List.getElem_toArray, List.getElem_cons_zero, List.getElem_cons_succ, List.setIfInBounds_toArray, List.set_cons_zero, List.set_cons_succ])
                  refine wpDyn_ready (rs := [5]) (by kernel_rfl) (by simp) (AllDyn.cons rfl (fun V hV K hK => ?_) AllDyn.nil)
                  rw [if_pos (by rfl)]
                  obtain ⟨p5, c5, W5, hrun, hk5⟩ := app_bases HK6.out HL6.out (Bl.out' hV.1) hV.2 (by omega) 49
                  refine wp_append6 (.tmp 115) (.tmp 119) 49 rfl _ _ _ W5 rfl rfl hrun ?_
                  refine hK.out (fun W => K5 w6 W ow6 L nk p5 c5 (us ++ [x.b]) pr cr vs pl cl tt.r.recs) _ _ (fun _ _ h hb => h.below hb) (fun _ _ h => h.ch) hk5 ?_
                  clear hK K hV hrun hk5
                  (try simp only [Act.put, List.getElem_toArray, List.getElem_cons_zero, List.getElem_cons_succ, List.setIfInBounds_toArray, List.set_cons_zero, List.set_cons_succ])
                  refine wpDyn_ready (rs := [9]) (by kernel_rfl) (by simp) (AllDyn.cons rfl (fun V hV K hK => ?_) AllDyn.nil)
                  rw [if_pos (by rfl)]
                  have hC := texts_any x.lq x.ll x.lc x.us x.l V (HXW.out V hV.ch).1 (HXW.out V hV.ch).2 HXL.out.2.1 (by have := HXL.out; omega)
                  rw [HXL.out.2.1] at hC
                  have hVs := hV.ch.size
                  refine wp_enterX 22 #[.slice x.lq x.l.length x.lc] (by rw [← HXL.out.2.1]; first | (go_simp; done) | (go_simp; rfl)) (fun v V' => ∃ p' c', v = .slice p' x.l.length c' ∧ OwG 9 V' V.heap.size p' x.l.length c' (strs x.l) ∧ Below V.heap.size V V') (hC.mono fun e V' ⟨p', c', h1, h2, h3⟩ => ⟨_, h1, p', c', rfl, h2.g, h3⟩) ?_
                  rintro v V1 ⟨p9, c9, rfl, hR, hb⟩
                  refine hK.out (fun W => K5 w6 W ow6 L nk p5 c5 (us ++ [x.b]) pr cr vs pl cl tt.r.recs ∧ OwG 9 W w6.heap.size p9 x.l.length c9 (strs x.l) ∧ (∀ y z, p9 = some y → p5 = some z → 0 < c9 → 0 < c5 → y.block ≠ z.block)) _ _ (fun _ _ h hb => ⟨h.1.below hb, h.2.1.below hb, h.2.2⟩) (fun _ _ h => h.1.ch) ⟨hV.below hb, hR.lowerB hVs, fun y z ey ez h0 h0' => by have h8 := (hR.ltC y ey h0).1; have h9 := (hV.bs.ltC z ez h0').2; omega⟩ ?_
                  clear hK K hV hC hR hb hVs
                  (try simp only [Act.put, List.getElem_toArray, List.getElem_cons_zero, List.getElem_cons_succ, List.setIfInBounds_toArray, List.set_cons_zero, List.set_cons_succ])
                  refine wpDyn_ready (rs := [10]) (by kernel_rfl) (by simp) (AllDyn.cons rfl (fun V hV K hK => ?_) AllDyn.nil)
                  rw [if_pos (by rfl)]
                  refine wp_value (.slice (some ⟨V.heap.size, 0, none⟩) 1 1) (V.alloc (.cells #[.slice p9 x.l.length c9] 49)) (by first | (go_simp; done) | (go_simp; rfl)) ?_
                  have hb := below_alloc V (.cells #[.slice p9 x.l.length c9] 49)
                  have hc10 : (V.alloc (.cells #[.slice p9 x.l.length c9] 49)).cell? ⟨V.heap.size, 0, none⟩ = some (.slice p9 x.l.length c9) := by simp
                  obtain ⟨b10, Hb10⟩ : ∃ z, Hid (z = V.heap.size) := ⟨_, rfl⟩
                  rw [← Hb10.out] at hc10 ⊢
                  refine hK.out (fun W => K5 w6 W ow6 L nk p5 c5 (us ++ [x.b]) pr cr vs pl cl tt.r.recs ∧ OwG 9 W w6.heap.size p9 x.l.length c9 (strs x.l) ∧ (∀ y z, p9 = some y → p5 = some z → 0 < c9 → 0 < c5 → y.block ≠ z.block) ∧ W.cell? ⟨b10, 0, none⟩ = some (.slice p9 x.l.length c9)) _ _ (fun _ _ h hb => ⟨h.1.below hb, h.2.1.below hb, h.2.2.1, cell_below hb h.2.2.2⟩) (fun _ _ h => h.1.ch) ⟨hV.1.below hb, hV.2.1.below hb, hV.2.2, hc10⟩ ?_
                  clear hK K hV hb hc10
                  (try simp only [Act.put, List.getElem_toArray, List.getElem_cons_zero, List.getElem_cons_succ, List.setIfInBounds_toArray, List.set_cons_zero, List.set_cons_succ])
                  refine wpDyn_ready (rs := [11]) (by kernel_rfl) (by simp) (AllDyn.cons rfl (fun V hV K hK => ?_) AllDyn.nil)
                  rw [if_pos (by rfl)]
                  obtain ⟨p11, c11, W11, hrun, hk11⟩ := app_reels hV.1 HL6.out hV.2.1 hV.2.2.1 hV.2.2.2 (by omega) 50
                  refine wp_append6 (.tmp 121) (.tmp 125) 50 rfl _ _ _ W11 rfl rfl hrun ?_
                  refine hK.out (fun W => K11 w6 W ow6 L nk p5 c5 (us ++ [x.b]) p11 c11 vs pl cl tt.r.recs p9 c9 x.l) _ _ (fun _ _ h hb => h.below hb) (fun _ _ h => h.ch) hk11 ?_
                  clear hK K hV hrun hk11
                  (try simp only [Act.put, List.getElem_toArray, List.getElem_cons_zero, List.getElem_cons_succ, List.setIfInBounds_toArray, List.set_cons_zero, List.set_cons_succ])
                  refine wpDyn_ready (rs := [12]) (by kernel_rfl) (by simp) (AllDyn.cons rfl (fun V hV K hK => ?_) AllDyn.nil)
                  rw [if_pos (by rfl)]
                  refine wp_value (.slice p5 (nk + 1 + 1) c5) V (by first | (go_simp; done) | (go_simp; rfl)) ?_
                  refine hK.out (fun W => K11 w6 W ow6 L nk p5 c5 (us ++ [x.b]) p11 c11 vs pl cl tt.r.recs p9 c9 x.l) _ _ (fun _ _ h hb => h.below hb) (fun _ _ h => h.ch) hV ?_
                  clear hK K hV
                  (try simp only [Act.put, List.getElem_toArray, List.getElem_cons_zero, List.getElem_cons_succ, List.setIfInBounds_toArray, List.set_cons_zero, List.set_cons_succ])
                  refine wpDyn_ready (rs := [13]) (by kernel_rfl) (by simp) (AllDyn.cons rfl (fun V hV K hK => ?_) AllDyn.nil)
                  rw [if_pos (by rfl)]
                  refine wp_value (.slice p11 (nk + 1 + 1) c11) V (by first | (go_simp; done) | (go_simp; rfl)) ?_
                  refine hK.out (fun W => K11 w6 W ow6 L nk p5 c5 (us ++ [x.b]) p11 c11 vs pl cl tt.r.recs p9 c9 x.l) _ _ (fun _ _ h hb => h.below hb) (fun _ _ h => h.ch) hV ?_
                  clear hK K hV
                  (try simp only [Act.put, List.getElem_toArray, List.getElem_cons_zero, List.getElem_cons_succ, List.setIfInBounds_toArray, List.set_cons_zero, List.set_cons_succ])
                  refine wpDyn_done (by kernel_rfl) (fun W2 hW2 => ?_) _
                  have HW : Hid (K11 w6 W2 ow6 L nk p5 c5 (us ++ [x.b]) p11 c11 vs pl cl tt.r.recs p9 c9 x.l) := hW2
                  clear hW2
                  have HVL : Hid (vs.length = nk + 1 ∧ us.length = nk + 1) := ⟨HK6.out.rs.len, by have := HK6.out.bs.len; rw [kstrs_len] at this; exact this⟩
                  have HK2 : Hid (KR W2 (lawO ow6 w6.heap.size W2.heap.size) L (nk + 1) p5 c5 (us ++ [x.b]) p11 c11 (vs ++ [.slice p9 x.l.length c9]) p9 c9 x.l) := KR.save HVL.out.1 HL6.out HW.out
                  have HT2 : Hid (TSx W2 L 0 g gt (lawO ow6 w6.heap.size W2.heap.size) (svT mm tt x.b x.l).2.1 (svT mm tt x.b x.l).2.2) := HT6.out.law2 (by decide) HW.out.ch
                  have HB2 : Hid (Below L w3 W2) := HLM.out W2 HW.out.ch
                  have hAx2 := HAX6.out.1.ch HW.out.ch HAX6.out.2
                  have cx3 := hAx2.cell 3
                  rw [HXL.out.2.1] at cx3
                  clear hAx2
                  go_wp2_with fail
                  go_roundw
                  case rel =>
                    have h9 : KI w3 W2 L g gt (lawO ow6 w6.heap.size W2.heap.size) ls (jj + 1) (svT mm tt x.b x.l).2.1 (svT mm tt x.b x.l).2.2 x.l.length (nk + 1) p5 c5 (us ++ [x.b]) p11 c11 (vs ++ [.slice p9 x.l.length c9]) p9 c9 :=
                      ⟨HT2.out, HKP.out.1.mono (Nat.le_refl _) (by omega), by rw [HKP.out.2]; show x.l.length ≤ _; have h1 := HSz.out.1; have h2 := HCO.out; have h3 := lsz_ge x.l x.l.length; omega, by rw [HKP.out.2]; exact HK2.out, by rw [HKP.out.2]; show (us ++ [x.b]).getD (nk + 1) [] = x.b; rw [List.getD_eq_getElem?_getD, List.getElem?_append_right (by have := HVL.out.2; omega), HVL.out.2, Nat.sub_self]; rfl, by have := HI.out.nkj; omega, HB2.out⟩
                    exact ⟨jj + 1, _, _, _, x.l.length, nk + 1, p5, c5, _, p11, c11, _, p9, c9, by omega, by go_num, rfl, rfl, rfl, rfl, h9⟩
                  case measure => simp [intOf]; omega
              · skip
                as_aux_lemma =>
                  rw [hz] at hC
                  have HG : Hid (Got (onM (svT mm tt x.b x.l).2.1) x.b x.l x.l.length ∨ Got (onM (svT mm tt x.b x.l).2.1) tt.r.base tt.r.recs kk) := hgot
                  clear hz hgot
                  go_wp2_with fail
                  rw [← Hwb.out]
                  refine hC.mono ?_
                  rintro e3 w6 ⟨rfl, ow6, hT6, ho6, hc6⟩
                  clear hC
                  have HK6 : Hid (KR w6 ow6 L nk pb cb us pr cr vs pl cl tt.r.recs) := HI.out.kr.op HI.out.ts.og hc6 ho6
                  have HB6 : Hid (Below L w3 w6) := HI.out.bel.trans (hc6.lowB2 HI.out.ts)
                  have hAx6 := HAX.out.1.ch hc6 (fun e => e HAX.out.2)
                  have HAX6 : Hid (At 52 w6 bx0 #[.int .i64 x.op, .int .i64 x.n, .slice x.bq x.bl x.bc, .slice x.lq x.ll x.lc, .slice x.kq x.kl x.kc] ∧ ow6 bx0 ≠ lawM) := ⟨hAx6, by rw [ho6 bx0 HAX.out.1.lt]; exact fun e => by rw [(show ow bx0 = 0 from by rw [Hbx0.out]; exact (HTR.out.1.new (Nat.le_refl _)).1)] at e; cases e⟩
                  have HT6 : Hid (TSx w6 L 0 g gt ow6 (svT mm tt x.b x.l).2.1 (svT mm tt x.b x.l).2.2) := hT6
                  have HL6 : Hid (L ≤ w6.heap.size) := hT6.o.lw
                  have HXB : Hid (Rd .u8 w6 x.bq x.bl x.bc x.b) := HRD.out.b.below' (by rw [← HH.out]; exact HB3.out.trans (HB6.out.mono HHL.out))
                  have HLM : Hid (∀ W, Ch (fun k => ow6 k = lawM) w6 W → Below L w3 W) := fun W h => HB6.out.trans (h.lowL HL6.out (fun k hk e => by have h8 : ow6 k = 0 := (HT6.out.old hk).1; rw [h8] at e; cases e))
                  have HXW : Hid (∀ W, Ch (fun k => ow6 k = lawM) w6 W → RdV W x.lq x.ll x.lc x.us ∧ Sls W x.us x.l) := fun W h => by
                    have h1 := HB3.out.trans ((HLM.out W h).mono HHL.out)
                    rw [HH.out] at h1
                    exact ⟨HRD.out.v.below h1, HRD.out.s.below h1⟩
                  have HCB : Hid (∀ W, Ch (fun k => ow6 k = lawM) w6 W → W.cell? ⟨bx0, 2, none⟩ = some (.slice x.bq x.bl x.bc)) := fun W h => (HAX6.out.1.ch h HAX6.out.2).cell 2
                  have HCL : Hid (∀ W, Ch (fun k => ow6 k = lawM) w6 W → W.cell? ⟨bx0, 3, none⟩ = some (.slice x.lq x.ll x.lc)) := fun W h => (HAX6.out.1.ch h HAX6.out.2).cell 3
                  have HXB2 : Hid (∀ W, Ch (fun k => ow6 k = lawM) w6 W → Rd .u8 W x.bq x.bl x.bc x.b) := fun W h => HRD.out.b.below' (by rw [← HH.out]; exact HB3.out.trans ((HLM.out W h).mono HHL.out))
                  clear hT6 ho6 hc6 hAx6
                  go_wp2_with fail
                  rw [← Hbx0.out]
                  have hS8 : Bl w6 w6.drew := (Below.refl _ _).drew
                  refine wp_region_dyn [0, 1, 2, 3, 6, 7, 8] (fun W => Ch (fun k => ow6 k = lawM) w6 W) (Bl w6) (by kernel_rfl) hS8 ?_
                  clear hS8
                  refine wpDyn_take ?vT3x0 (Bl.stays w6) (fun _ h => Ch.of_below (Bl.out' h) _) (i := 0) rfl (by kernel_rfl) (by kernel_rfl) (by kernel_rfl) (by kernel_rfl) (by kernel_rfl) (fun _ _ _ h => h) (Gives.value (by rfl) ?yT3x0) ?rT3x0
                  case yT3x0 => (intro w' hSw; clear hSw; go_simp; try with_reducible rfl)
                  (try simp only [Act.put, List.getElem_toArray, List.getElem_cons_zero, List.getElem_cons_succ, List.setIfInBounds_toArray, List.set_cons_zero, List.set_cons_succ])
                  refine wpDyn_take ?vT3x1 (Bl.stays w6) (fun _ h => Ch.of_below (Bl.out' h) _) (i := 1) rfl (by kernel_rfl) (by kernel_rfl) (by kernel_rfl) (by kernel_rfl) (by kernel_rfl) (fun _ _ _ h => h) (Gives.value (by rfl) ?yT3x1) ?rT3x1
                  case yT3x1 => (intro w' hSw; clear hSw; go_simp; try with_reducible rfl)
                  (try simp only [Act.put, List.getElem_toArray, List.getElem_cons_zero, List.getElem_cons_succ, List.setIfInBounds_toArray, List.set_cons_zero, List.set_cons_succ])
                  refine wpDyn_take ?vT3x2 (Bl.stays w6) (fun _ h => Ch.of_below (Bl.out' h) _) (i := 2) rfl (by kernel_rfl) (by kernel_rfl) (by kernel_rfl) (by kernel_rfl) (by kernel_rfl) (fun _ _ _ h => h) (Gives.value (by rfl) ?yT3x2) ?rT3x2
                  case yT3x2 => (intro w' hSw; have hcl := HCB.out w' hSw; clear hSw; go_simp; try with_reducible rfl)
                  (try simp only [Act.put, List.getElem_toArray, List.getElem_cons_zero, List.getElem_cons_succ, List.setIfInBounds_toArray, List.set_cons_zero, List.set_cons_succ])
                  refine wpDyn_take ?vT3x3 (Bl.stays w6) (fun _ h => Ch.of_below (Bl.out' h) _) (i := 3) rfl (by kernel_rfl) (by kernel_rfl) (by kernel_rfl) (by kernel_rfl) (by kernel_rfl) (fun _ _ _ h => h) (Gives.value (by rfl) ?yT3x3) ?rT3x3
                  case yT3x3 => (intro w' hSw; have hst := (HXB2.out w' hSw).str; clear hSw; go_simp; try with_reducible rfl)
                  (try simp only [Act.put, List.getElem_toArray, List.getElem_cons_zero, List.getElem_cons_succ, List.setIfInBounds_toArray, List.set_cons_zero, List.set_cons_succ])
                  refine wpDyn_take ?vT3x6 (Bl.stays w6) (fun _ h => Ch.of_below (Bl.out' h) _) (i := 6) rfl (by kernel_rfl) (by kernel_rfl) (by kernel_rfl) (by kernel_rfl) (by kernel_rfl) (fun _ _ _ h => h) (Gives.value (by rfl) ?yT3x6) ?rT3x6
                  case yT3x6 => (intro w' hSw; clear hSw; go_simp; try with_reducible rfl)
                  (try simp only [Act.put, List.getElem_toArray, List.getElem_cons_zero, List.getElem_cons_succ, List.setIfInBounds_toArray, List.set_cons_zero, List.set_cons_succ])
                  refine wpDyn_take ?vT3x7 (Bl.stays w6) (fun _ h => Ch.of_below (Bl.out' h) _) (i := 7) rfl (by kernel_rfl) (by kernel_rfl) (by kernel_rfl) (by kernel_rfl) (by kernel_rfl) (fun _ _ _ h => h) (Gives.value (by rfl) ?yT3x7) ?rT3x7
                  case yT3x7 => (intro w' hSw; clear hSw; go_simp; try with_reducible rfl)
                  (try simp only [Act.put, List.getElem_toArray, List.getElem_cons_zero, List.getElem_cons_succ, List.setIfInBounds_toArray, List.set_cons_zero, List.set_cons_succ])
                  refine wpDyn_take ?vT3x8 (Bl.stays w6) (fun _ h => Ch.of_below (Bl.out' h) _) (i := 8) rfl (by kernel_rfl) (by kernel_rfl) (by kernel_rfl) (by kernel_rfl) (by kernel_rfl) (fun _ _ _ h => h) (Gives.value (by rfl) ?yT3x8) ?rT3x8
                  case yT3x8 => (intro w' hSw; have hcl := HCL.out w' hSw; clear hSw; go_simp; try with_reducible rfl)
                  (try simp only [Act.put, List.getElem_toArray, List.getElem_cons_zero, List.getElem_cons_succ, List.setIfInBounds_toArray, List.set_cons_zero, List.set_cons_succ])
                  refine wpDyn_ready (rs := [4]) (by kernel_rfl) (by simp) (AllDyn.cons rfl (fun V hV K hK => ?_) AllDyn.nil)
                  rw [if_pos (by rfl)]
                  refine wp_value (.slice (some ⟨V.heap.size, 0, none⟩) 1 1) (V.alloc (.cells #[.string (strOfNums x.b)] 9)) (by first | (go_simp; done) | (go_simp; rfl)) ?_
                  have hb := below_alloc V (.cells #[.string (strOfNums x.b)] 9)
                  have hc4 : (V.alloc (.cells #[.string (strOfNums x.b)] 9)).cell? ⟨V.heap.size, 0, none⟩ = some (.string (strOfNums x.b)) := by simp
                  obtain ⟨b4, Hb4⟩ : ∃ z, Hid (z = V.heap.size) := ⟨_, rfl⟩
                  rw [← Hb4.out] at hc4 ⊢
                  refine hK.out (fun W => Bl w6 W ∧ W.cell? ⟨b4, 0, none⟩ = some (.string (strOfNums x.b))) _ _ (fun _ _ h hb => ⟨Bl.stays w6 _ _ h.1 hb, cell_below hb h.2⟩) (fun _ _ h => Ch.of_below (Bl.out' h.1) _) ⟨Bl.stays w6 _ _ hV hb, hc4⟩ ?_
                  clear hK K hV hb hc4
                  (try simp only [Act.put, List.getElem_toArray, List.getElem_cons_zero, List.getElem_cons_succ, List.setIfInBounds_toArray, List.set_cons_zero, List.set_cons_succ])
                  refine wpDyn_ready (rs := [5]) (by kernel_rfl) (by simp) (AllDyn.cons rfl (fun V hV K hK => ?_) AllDyn.nil)
                  rw [if_pos (by rfl)]
                  obtain ⟨p5, c5, W5, hrun, hk5⟩ := app_bases HK6.out HL6.out (Bl.out' hV.1) hV.2 (by omega) 49
                  refine wp_append6 (.tmp 115) (.tmp 119) 49 rfl _ _ _ W5 rfl rfl hrun ?_
                  refine hK.out (fun W => K5 w6 W ow6 L nk p5 c5 (us ++ [x.b]) pr cr vs pl cl tt.r.recs) _ _ (fun _ _ h hb => h.below hb) (fun _ _ h => h.ch) hk5 ?_
                  clear hK K hV hrun hk5
                  (try simp only [Act.put, List.getElem_toArray, List.getElem_cons_zero, List.getElem_cons_succ, List.setIfInBounds_toArray, List.set_cons_zero, List.set_cons_succ])
                  refine wpDyn_ready (rs := [9]) (by kernel_rfl) (by simp) (AllDyn.cons rfl (fun V hV K hK => ?_) AllDyn.nil)
                  rw [if_pos (by rfl)]
                  have hC := texts_any x.lq x.ll x.lc x.us x.l V (HXW.out V hV.ch).1 (HXW.out V hV.ch).2 HXL.out.2.1 (by have := HXL.out; omega)
                  rw [HXL.out.2.1] at hC
                  have hVs := hV.ch.size
                  refine wp_enterX 22 #[.slice x.lq x.l.length x.lc] (by rw [← HXL.out.2.1]; first | (go_simp; done) | (go_simp; rfl)) (fun v V' => ∃ p' c', v = .slice p' x.l.length c' ∧ OwG 9 V' V.heap.size p' x.l.length c' (strs x.l) ∧ Below V.heap.size V V') (hC.mono fun e V' ⟨p', c', h1, h2, h3⟩ => ⟨_, h1, p', c', rfl, h2.g, h3⟩) ?_
                  rintro v V1 ⟨p9, c9, rfl, hR, hb⟩
                  refine hK.out (fun W => K5 w6 W ow6 L nk p5 c5 (us ++ [x.b]) pr cr vs pl cl tt.r.recs ∧ OwG 9 W w6.heap.size p9 x.l.length c9 (strs x.l) ∧ (∀ y z, p9 = some y → p5 = some z → 0 < c9 → 0 < c5 → y.block ≠ z.block)) _ _ (fun _ _ h hb => ⟨h.1.below hb, h.2.1.below hb, h.2.2⟩) (fun _ _ h => h.1.ch) ⟨hV.below hb, hR.lowerB hVs, fun y z ey ez h0 h0' => by have h8 := (hR.ltC y ey h0).1; have h9 := (hV.bs.ltC z ez h0').2; omega⟩ ?_
                  clear hK K hV hC hR hb hVs
                  (try simp only [Act.put, List.getElem_toArray, List.getElem_cons_zero, List.getElem_cons_succ, List.setIfInBounds_toArray, List.set_cons_zero, List.set_cons_succ])
                  refine wpDyn_ready (rs := [10]) (by kernel_rfl) (by simp) (AllDyn.cons rfl (fun V hV K hK => ?_) AllDyn.nil)
                  rw [if_pos (by rfl)]
                  refine wp_value (.slice (some ⟨V.heap.size, 0, none⟩) 1 1) (V.alloc (.cells #[.slice p9 x.l.length c9] 49)) (by first | (go_simp; done) | (go_simp; rfl)) ?_
                  have hb := below_alloc V (.cells #[.slice p9 x.l.length c9] 49)
                  have hc10 : (V.alloc (.cells #[.slice p9 x.l.length c9] 49)).cell? ⟨V.heap.size, 0, none⟩ = some (.slice p9 x.l.length c9) := by simp
                  obtain ⟨b10, Hb10⟩ : ∃ z, Hid (z = V.heap.size) := ⟨_, rfl⟩
                  rw [← Hb10.out] at hc10 ⊢
                  refine hK.out (fun W => K5 w6 W ow6 L nk p5 c5 (us ++ [x.b]) pr cr vs pl cl tt.r.recs ∧ OwG 9 W w6.heap.size p9 x.l.length c9 (strs x.l) ∧ (∀ y z, p9 = some y → p5 = some z → 0 < c9 → 0 < c5 → y.block ≠ z.block) ∧ W.cell? ⟨b10, 0, none⟩ = some (.slice p9 x.l.length c9)) _ _ (fun _ _ h hb => ⟨h.1.below hb, h.2.1.below hb, h.2.2.1, cell_below hb h.2.2.2⟩) (fun _ _ h => h.1.ch) ⟨hV.1.below hb, hV.2.1.below hb, hV.2.2, hc10⟩ ?_
                  clear hK K hV hb hc10
                  (try simp only [Act.put, List.getElem_toArray, List.getElem_cons_zero, List.getElem_cons_succ, List.setIfInBounds_toArray, List.set_cons_zero, List.set_cons_succ])
                  refine wpDyn_ready (rs := [11]) (by kernel_rfl) (by simp) (AllDyn.cons rfl (fun V hV K hK => ?_) AllDyn.nil)
                  rw [if_pos (by rfl)]
                  obtain ⟨p11, c11, W11, hrun, hk11⟩ := app_reels hV.1 HL6.out hV.2.1 hV.2.2.1 hV.2.2.2 (by omega) 50
                  refine wp_append6 (.tmp 121) (.tmp 125) 50 rfl _ _ _ W11 rfl rfl hrun ?_
                  refine hK.out (fun W => K11 w6 W ow6 L nk p5 c5 (us ++ [x.b]) p11 c11 vs pl cl tt.r.recs p9 c9 x.l) _ _ (fun _ _ h hb => h.below hb) (fun _ _ h => h.ch) hk11 ?_
                  clear hK K hV hrun hk11
                  (try simp only [Act.put, List.getElem_toArray, List.getElem_cons_zero, List.getElem_cons_succ, List.setIfInBounds_toArray, List.set_cons_zero, List.set_cons_succ])
                  refine wpDyn_ready (rs := [12]) (by kernel_rfl) (by simp) (AllDyn.cons rfl (fun V hV K hK => ?_) AllDyn.nil)
                  rw [if_pos (by rfl)]
                  refine wp_value (.slice p5 (nk + 1 + 1) c5) V (by first | (go_simp; done) | (go_simp; rfl)) ?_
                  refine hK.out (fun W => K11 w6 W ow6 L nk p5 c5 (us ++ [x.b]) p11 c11 vs pl cl tt.r.recs p9 c9 x.l) _ _ (fun _ _ h hb => h.below hb) (fun _ _ h => h.ch) hV ?_
                  clear hK K hV
                  (try simp only [Act.put, List.getElem_toArray, List.getElem_cons_zero, List.getElem_cons_succ, List.setIfInBounds_toArray, List.set_cons_zero, List.set_cons_succ])
                  refine wpDyn_ready (rs := [13]) (by kernel_rfl) (by simp) (AllDyn.cons rfl (fun V hV K hK => ?_) AllDyn.nil)
                  rw [if_pos (by rfl)]
                  refine wp_value (.slice p11 (nk + 1 + 1) c11) V (by first | (go_simp; done) | (go_simp; rfl)) ?_
                  refine hK.out (fun W => K11 w6 W ow6 L nk p5 c5 (us ++ [x.b]) p11 c11 vs pl cl tt.r.recs p9 c9 x.l) _ _ (fun _ _ h hb => h.below hb) (fun _ _ h => h.ch) hV ?_
                  clear hK K hV
                  (try simp only [Act.put, List.getElem_toArray, List.getElem_cons_zero, List.getElem_cons_succ, List.setIfInBounds_toArray, List.set_cons_zero, List.set_cons_succ])
                  refine wpDyn_done (by kernel_rfl) (fun W2 hW2 => ?_) _
                  have HW : Hid (K11 w6 W2 ow6 L nk p5 c5 (us ++ [x.b]) p11 c11 vs pl cl tt.r.recs p9 c9 x.l) := hW2
                  clear hW2
                  have HVL : Hid (vs.length = nk + 1 ∧ us.length = nk + 1) := ⟨HK6.out.rs.len, by have := HK6.out.bs.len; rw [kstrs_len] at this; exact this⟩
                  have HK2 : Hid (KR W2 (lawO ow6 w6.heap.size W2.heap.size) L (nk + 1) p5 c5 (us ++ [x.b]) p11 c11 (vs ++ [.slice p9 x.l.length c9]) p9 c9 x.l) := KR.save HVL.out.1 HL6.out HW.out
                  have HT2 : Hid (TSx W2 L 0 g gt (lawO ow6 w6.heap.size W2.heap.size) (svT mm tt x.b x.l).2.1 (svT mm tt x.b x.l).2.2) := HT6.out.law2 (by decide) HW.out.ch
                  have HB2 : Hid (Below L w3 W2) := HLM.out W2 HW.out.ch
                  have hAx2 := HAX6.out.1.ch HW.out.ch HAX6.out.2
                  have cx0 := hAx2.cell 0
                  have hD2 := HT2.out.ds
                  have HMLx : Hid (∀ z, pl = some z → 0 < cl → (lawO ow6 w6.heap.size W2.heap.size) z.block = lawM) := fun z e h0 => by rw [lawO_low (HK6.out.lr.ltC z e h0).2]; exact HK6.out.ml z e h0
                  have HVV : Hid ((us ++ [x.b]).getD (nk + 1) [] = x.b ∧ (us ++ [x.b]).getD nk [] = tt.r.base ∧ (vs ++ [Value.slice p9 x.l.length c9]).getD nk undef = .slice pl tt.r.recs.length cl) := by
                    have h1 := HVL.out
                    refine ⟨?_, ?_, ?_⟩
                    · rw [List.getD_eq_getElem?_getD, List.getElem?_append_right (by omega), h1.2, Nat.sub_self]; rfl
                    · rw [List.getD_eq_getElem?_getD, List.getElem?_append_left (by omega), ← List.getD_eq_getElem?_getD]; exact HI.out.lb
                    · rw [List.getD_eq_getElem?_getD, List.getElem?_append_left (by omega), ← List.getD_eq_getElem?_getD]; exact HK6.out.lv
                  obtain ⟨us2, Hus2⟩ : ∃ z : List (List Int), Hid (z = us ++ [x.b]) := ⟨_, rfl⟩
                  obtain ⟨vs2, Hvs2⟩ : ∃ z : List Value, Hid (z = vs ++ [Value.slice p9 x.l.length c9]) := ⟨_, rfl⟩
                  rw [← Hus2.out, ← Hvs2.out] at HK2 HVV
                  have HLO : Hid (OwG 9 W2 L pl tt.r.recs.length cl (strs tt.r.recs)) := HW.out.lr
                  clear hAx2
                  rcases HG.out with hg | hg
                  · skip
                    as_aux_lemma =>
                      have HGo := hg
                      obtain ⟨dz, hDz⟩ := hD2
                      have hRe := reopened_any W2 L g (lawO ow6 w6.heap.size W2.heap.size) dz _ hDz x.b x.l x.l.length HGo
                      have HOG : Hid ((lawO ow6 w6.heap.size W2.heap.size) g = 0 ∧ L ≤ W2.heap.size ∧ ∀ k, k < L → Fg2 (lawO ow6 w6.heap.size W2.heap.size) g k) := ⟨hDz.da.og, hDz.lw, fun k hk => ⟨Or.inl (hDz.low k hk), by have := hDz.lg; omega⟩⟩
                      clear hDz
                      go_wp2_with fail
                      refine hRe.mono ?_
                      rintro e5 w10 ⟨pz, iz, cq, rfl, hi1, hi2, hrv, hch⟩
                      clear hRe
                      have hK10 := (HK2.out).op HOG.out.1 hch (fun _ _ => rfl)
                      have hB10 : Below L W2 w10 := hch.lowL HOG.out.2.1 (fun k hk e => e (HOG.out.2.2 k hk))
                      have HB10 : Hid (Below L w3 w10) := (HB2.out).trans hB10
                      have HL10 : Hid (L ≤ w10.heap.size) := Nat.le_trans HOG.out.2.1 hch.size
                      obtain ⟨bx, Hbx⟩ : ∃ z, Hid (z = w10.heap.size) := ⟨_, rfl⟩
                      have hba := below_alloc w10 (.cells #[.pointer none, .int .i64 0, .string (strOfNums x.b), .slice pz iz cq, .int .i64 0, .int .i64 0] 59)
                      have hAt := At.new 59 w10 #[.pointer none, .int .i64 0, .string (strOfNums x.b), .slice pz iz cq, .int .i64 0, .int .i64 0]
                      rw [← Hbx.out] at hAt
                      obtain ⟨w11, Hw11⟩ : ∃ z, Hid (z = w10.alloc (.cells #[.pointer none, .int .i64 0, .string (strOfNums x.b), .slice pz iz cq, .int .i64 0, .int .i64 0] 59)) := ⟨_, rfl⟩
                      rw [← Hw11.out] at hba hAt
                      have hK11 := hK10.below hba
                      have HB11 : Hid (Below L w3 w11) := HB10.out.trans (hba.mono HL10.out)
                      have HL11 : Hid (L ≤ w11.heap.size) := Nat.le_trans HL10.out hba.size
                      obtain ⟨sB, HsB⟩ : ∃ z, Hid (z = strOfNums x.b) := ⟨_, rfl⟩
                      have HCb : Hid (w11.cell? ⟨bx, 2, none⟩ = some (.string sB)) := by rw [HsB.out]; exact hAt.cell 2
                      have HCl : Hid (w11.cell? ⟨bx, 3, none⟩ = some (.slice pz iz cq)) := hAt.cell 3
                      have HIJ : Hid (x.l.length ≤ iz ∧ iz ≤ (x.l).length) := ⟨hi1, hi2⟩
                      have HRV : Hid (∀ V, Bl w11 V → RdV V pz iz cq (txt (txb ((x.l).take iz)))) := fun V h => (hrv.below hba).below (Bl.out' h)
                      have HK11 : Hid (KR w11 (lawO ow6 w6.heap.size W2.heap.size) L (nk + 1) p5 c5 us2 p11 c11 vs2 p9 c9 x.l) := hK11
                      have hOl10 : OwG 9 w10 L pl tt.r.recs.length cl (strs tt.r.recs) := HLO.out.chC hch (fun z e h0 h9 => h9 ⟨Or.inr (HMLx.out z e h0), fun e2 => by have h8 := HMLx.out z e h0; rw [e2, HOG.out.1] at h8; cases h8⟩)
                      have HOl : Hid (∀ V, Bl w11 V → RdV V pl tt.r.recs.length cl (txt (txb tt.r.recs))) := fun V h => by rw [← strs_txb]; exact (hOl10.rd.below hba).below (Bl.out' h)
                      clear hOl10
                      clear hK10 hK11 hB10 hch hrv hi1 hi2 hba hAt HB10 HL10 HOG
                      obtain ⟨bb, ob, hpb, hcb⟩ := HK11.out.bs.rd.cells (Nat.succ_pos _)
                      obtain ⟨br, or_, hpr, hcr⟩ := HK11.out.rs.rd.cells (Nat.succ_pos _)
                      have hcb1 := hcb (nk + 1) (Nat.lt_succ_self _)
                      have hcr1 := hcr (nk + 1) (Nat.lt_succ_self _)
                      have hcb0 := hcb nk (by omega)
                      have hcr0 := hcr nk (by omega)
                      have hul : us2.length = nk + 1 + 1 := by have := HK11.out.bs.len; rw [kstrs_len] at this; exact this
                      rw [HK11.out.lv] at hcr1
                      rw [HVV.out.2.2] at hcr0
                      rw [kstrs_getD (by omega), HVV.out.1] at hcb1
                      rw [kstrs_getD (by omega), HVV.out.2.1] at hcb0
                      have HBb1 : Hid (w11.cell? ⟨bb, ob + (nk + 1), none⟩ = some (.string (strOfNums x.b))) := hcb1
                      have HRr1 : Hid (w11.cell? ⟨br, or_ + (nk + 1), none⟩ = some (.slice p9 x.l.length c9)) := hcr1
                      have HBb0 : Hid (w11.cell? ⟨bb, ob + nk, none⟩ = some (.string (strOfNums tt.r.base))) := hcb0
                      have HRr0 : Hid (w11.cell? ⟨br, or_ + nk, none⟩ = some (.slice pl tt.r.recs.length cl)) := hcr0
                      have HLV : Hid (∀ V, Bl w11 V → RdV V p9 x.l.length c9 (txt (txb x.l))) := fun V h => by rw [← strs_txb]; exact HK11.out.lr.rd.below (Bl.out' h)
                      have HPB : Hid (p5 = some ⟨bb, ob, none⟩ ∧ p11 = some ⟨br, or_, none⟩) := ⟨hpb, hpr⟩
                      rw [HPB.out.1, HPB.out.2]
                      have hnk1 : ((nk : Int) + 1) < (((nk + 1 + 1 : Nat)) : Int) := by omega
                      have hnk2 : ((nk : Int)) < (((nk + 1 + 1 : Nat)) : Int) := by omega
                      have hnkT : ((nk : Int) + 1).toNat = nk + 1 := by omega
                      have hnk0 : (0 : Int) ≤ (nk : Int) + 1 := by omega
                      have hwr1 : IntKind.i64.wrap (nk : Int) = (nk : Int) := by rw [IntKind.wrap_i64]; omega
                      clear hcb hcr hcb1 hcr1 hcb0 hcr0 hpb hpr hul
                      go_wp2_with fail
                      rw [← Hw11.out, ← HsB.out, ← Hbx.out]
                      have HBx : Hid (w11.cell? ⟨bb, ob + (nk + 1), none⟩ = some (.string sB)) := by rw [HsB.out]; exact HBb1.out
                      have hS8 : Bl w11 w11.drew := (Below.refl _ _).drew
                      refine wp_region_dyn [0, 1, 2, 3, 4, 5, 6, 7, 8, 9, 10, 11, 12, 13, 14, 15, 16, 17, 19, 20] (Bl w11) (Bl w11) (by kernel_rfl) hS8 ?_
                      clear hS8
                      refine wpDyn_take ?vT4x0 (Bl.stays w11) (fun _ h => h) (i := 0) rfl (by kernel_rfl) (by kernel_rfl) (by kernel_rfl) (by kernel_rfl) (by kernel_rfl) (fun _ _ _ h => h) (Gives.value (by rfl) ?yT4x0) ?rT4x0
                      case yT4x0 => (intro w' hSw; go_simp; try with_reducible rfl)
                      (try simp only [Act.put, List.getElem_toArray, List.getElem_cons_zero, List.getElem_cons_succ, List.setIfInBounds_toArray, List.set_cons_zero, List.set_cons_succ])
                      refine wpDyn_take ?vT4x1 (Bl.stays w11) (fun _ h => h) (i := 1) rfl (by kernel_rfl) (by kernel_rfl) (by kernel_rfl) (by kernel_rfl) (by kernel_rfl) (fun _ _ _ h => h) (Gives.value (by rfl) ?yT4x1) ?rT4x1
                      case yT4x1 => (intro w' hSw; go_simp; try with_reducible rfl)
                      (try simp only [Act.put, List.getElem_toArray, List.getElem_cons_zero, List.getElem_cons_succ, List.setIfInBounds_toArray, List.set_cons_zero, List.set_cons_succ])
                      refine wpDyn_take ?vT4x2 (Bl.stays w11) (fun _ h => h) (i := 2) rfl (by kernel_rfl) (by kernel_rfl) (by kernel_rfl) (by kernel_rfl) (by kernel_rfl) (fun _ _ _ h => h) (Gives.value (by rfl) ?yT4x2) ?rT4x2
                      case yT4x2 => (intro w' hSw; go_simp; try with_reducible rfl)
                      (try simp only [Act.put, List.getElem_toArray, List.getElem_cons_zero, List.getElem_cons_succ, List.setIfInBounds_toArray, List.set_cons_zero, List.set_cons_succ])
                      refine wpDyn_take ?vT4x3 (Bl.stays w11) (fun _ h => h) (i := 3) rfl (by kernel_rfl) (by kernel_rfl) (by kernel_rfl) (by kernel_rfl) (by kernel_rfl) (fun _ _ _ h => h) (Gives.value (by rfl) ?yT4x3) ?rT4x3
                      case yT4x3 => (intro w' hSw; go_simp; try with_reducible rfl)
                      (try simp only [Act.put, List.getElem_toArray, List.getElem_cons_zero, List.getElem_cons_succ, List.setIfInBounds_toArray, List.set_cons_zero, List.set_cons_succ])
                      refine wpDyn_take ?vT4x4 (Bl.stays w11) (fun _ h => h) (i := 4) rfl (by kernel_rfl) (by kernel_rfl) (by kernel_rfl) (by kernel_rfl) (by kernel_rfl) (fun _ _ _ h => h) (Gives.value (by rfl) ?yT4x4) ?rT4x4
                      case yT4x4 => (intro w' hSw; have hcl := cell_below (Bl.out' hSw) HCb.out; clear hSw; go_simp; try with_reducible rfl)
                      (try simp only [Act.put, List.getElem_toArray, List.getElem_cons_zero, List.getElem_cons_succ, List.setIfInBounds_toArray, List.set_cons_zero, List.set_cons_succ])
                      refine wpDyn_take ?vT4x5 (Bl.stays w11) (fun _ h => h) (i := 5) rfl (by kernel_rfl) (by kernel_rfl) (by kernel_rfl) (by kernel_rfl) (by kernel_rfl) (fun _ _ _ h => h) (Gives.value (by rfl) ?yT4x5) ?rT4x5
                      case yT4x5 => (intro w' hSw; go_simp; try with_reducible rfl)
                      (try simp only [Act.put, List.getElem_toArray, List.getElem_cons_zero, List.getElem_cons_succ, List.setIfInBounds_toArray, List.set_cons_zero, List.set_cons_succ])
                      refine wpDyn_take ?vT4x6 (Bl.stays w11) (fun _ h => h) (i := 6) rfl (by kernel_rfl) (by kernel_rfl) (by kernel_rfl) (by kernel_rfl) (by kernel_rfl) (fun _ _ _ h => h) (Gives.value (by rfl) ?yT4x6) ?rT4x6
                      case yT4x6 => (intro w' hSw; go_simp; try with_reducible rfl)
                      (try simp only [Act.put, List.getElem_toArray, List.getElem_cons_zero, List.getElem_cons_succ, List.setIfInBounds_toArray, List.set_cons_zero, List.set_cons_succ])
                      refine wpDyn_take (.pointer (some ⟨bb, ob + (nk + 1), none⟩)) (Bl.stays w11) (fun _ h => h) (i := 7) rfl (by kernel_rfl) (by kernel_rfl) (by kernel_rfl) (by kernel_rfl) (by kernel_rfl) (fun _ _ _ h => h) (Gives.value (by rfl) ?yT4x7) ?rT4x7
                      case yT4x7 => (intro w' hSw; go_simp; try (intro hx; exfalso; omega))
                      (try simp only [Act.put, List.getElem_toArray, List.getElem_cons_zero, List.getElem_cons_succ, List.setIfInBounds_toArray, List.set_cons_zero, List.set_cons_succ])
                      refine wpDyn_take ?vT4x8 (Bl.stays w11) (fun _ h => h) (i := 8) rfl (by kernel_rfl) (by kernel_rfl) (by kernel_rfl) (by kernel_rfl) (by kernel_rfl) (fun _ _ _ h => h) (Gives.value (by rfl) ?yT4x8) ?rT4x8
                      case yT4x8 => (intro w' hSw; have hcl := cell_below (Bl.out' hSw) HBx.out; clear hSw; go_simp; try with_reducible rfl)
                      (try simp only [Act.put, List.getElem_toArray, List.getElem_cons_zero, List.getElem_cons_succ, List.setIfInBounds_toArray, List.set_cons_zero, List.set_cons_succ])
                      refine wpDyn_take ?vT4x9 (Bl.stays w11) (fun _ h => h) (i := 9) rfl (by kernel_rfl) (by kernel_rfl) (by kernel_rfl) (by kernel_rfl) (by kernel_rfl) (fun _ _ _ h => h) (Gives.value (by rfl) ?yT4x9) ?rT4x9
                      case yT4x9 => (intro w' hSw; go_simp; try with_reducible rfl)
                      (try simp only [Act.put, List.getElem_toArray, List.getElem_cons_zero, List.getElem_cons_succ, List.setIfInBounds_toArray, List.set_cons_zero, List.set_cons_succ])
                      refine wpDyn_take ?vT4x10 (Bl.stays w11) (fun _ h => h) (i := 10) rfl (by kernel_rfl) (by kernel_rfl) (by kernel_rfl) (by kernel_rfl) (by kernel_rfl) (fun _ _ _ h => h) (Gives.value (by rfl) ?yT4x10) ?rT4x10
                      case yT4x10 => (intro w' hSw; go_simp; try with_reducible rfl)
                      (try simp only [Act.put, List.getElem_toArray, List.getElem_cons_zero, List.getElem_cons_succ, List.setIfInBounds_toArray, List.set_cons_zero, List.set_cons_succ])
                      refine wpDyn_take ?vT4x11 (Bl.stays w11) (fun _ h => h) (i := 11) rfl (by kernel_rfl) (by kernel_rfl) (by kernel_rfl) (by kernel_rfl) (by kernel_rfl) (fun _ _ _ h => h) (Gives.value (by rfl) ?yT4x11) ?rT4x11
                      case yT4x11 => (intro w' hSw; go_simp; try with_reducible rfl)
                      (try simp only [Act.put, List.getElem_toArray, List.getElem_cons_zero, List.getElem_cons_succ, List.setIfInBounds_toArray, List.set_cons_zero, List.set_cons_succ])
                      refine wpDyn_take ?vT4x12 (Bl.stays w11) (fun _ h => h) (i := 12) rfl (by kernel_rfl) (by kernel_rfl) (by kernel_rfl) (by kernel_rfl) (by kernel_rfl) (fun _ _ _ h => h) (Gives.value (by rfl) ?yT4x12) ?rT4x12
                      case yT4x12 => (intro w' hSw; go_simp; try with_reducible rfl)
                      (try simp only [Act.put, List.getElem_toArray, List.getElem_cons_zero, List.getElem_cons_succ, List.setIfInBounds_toArray, List.set_cons_zero, List.set_cons_succ])
                      refine wpDyn_take ?vT4x13 (Bl.stays w11) (fun _ h => h) (i := 13) rfl (by kernel_rfl) (by kernel_rfl) (by kernel_rfl) (by kernel_rfl) (by kernel_rfl) (fun _ _ _ h => h) (Gives.value (by rfl) ?yT4x13) ?rT4x13
                      case yT4x13 => (intro w' hSw; have hcl := cell_below (Bl.out' hSw) HCl.out; clear hSw; go_simp; try with_reducible rfl)
                      (try simp only [Act.put, List.getElem_toArray, List.getElem_cons_zero, List.getElem_cons_succ, List.setIfInBounds_toArray, List.set_cons_zero, List.set_cons_succ])
                      refine wpDyn_take ?vT4x14 (Bl.stays w11) (fun _ h => h) (i := 14) rfl (by kernel_rfl) (by kernel_rfl) (by kernel_rfl) (by kernel_rfl) (by kernel_rfl) (fun _ _ _ h => h) (Gives.value (by rfl) ?yT4x14) ?rT4x14
                      case yT4x14 => (intro w' hSw; go_simp; try with_reducible rfl)
                      (try simp only [Act.put, List.getElem_toArray, List.getElem_cons_zero, List.getElem_cons_succ, List.setIfInBounds_toArray, List.set_cons_zero, List.set_cons_succ])
                      refine wpDyn_take ?vT4x15 (Bl.stays w11) (fun _ h => h) (i := 15) rfl (by kernel_rfl) (by kernel_rfl) (by kernel_rfl) (by kernel_rfl) (by kernel_rfl) (fun _ _ _ h => h) (Gives.value (by rfl) ?yT4x15) ?rT4x15
                      case yT4x15 => (intro w' hSw; go_simp; try with_reducible rfl)
                      (try simp only [Act.put, List.getElem_toArray, List.getElem_cons_zero, List.getElem_cons_succ, List.setIfInBounds_toArray, List.set_cons_zero, List.set_cons_succ])
                      refine wpDyn_take (.pointer (some ⟨br, or_ + (nk + 1), none⟩)) (Bl.stays w11) (fun _ h => h) (i := 16) rfl (by kernel_rfl) (by kernel_rfl) (by kernel_rfl) (by kernel_rfl) (by kernel_rfl) (fun _ _ _ h => h) (Gives.value (by rfl) ?yT4x16) ?rT4x16
                      case yT4x16 => (intro w' hSw; go_simp; try (intro hx; exfalso; omega))
                      (try simp only [Act.put, List.getElem_toArray, List.getElem_cons_zero, List.getElem_cons_succ, List.setIfInBounds_toArray, List.set_cons_zero, List.set_cons_succ])
                      refine wpDyn_take ?vT4x17 (Bl.stays w11) (fun _ h => h) (i := 17) rfl (by kernel_rfl) (by kernel_rfl) (by kernel_rfl) (by kernel_rfl) (by kernel_rfl) (fun _ _ _ h => h) (Gives.value (by rfl) ?yT4x17) ?rT4x17
                      case yT4x17 => (intro w' hSw; have hcl := cell_below (Bl.out' hSw) HRr1.out; clear hSw; go_simp; try with_reducible rfl)
                      (try simp only [Act.put, List.getElem_toArray, List.getElem_cons_zero, List.getElem_cons_succ, List.setIfInBounds_toArray, List.set_cons_zero, List.set_cons_succ])
                      refine wpDyn_ready (rs := [18]) (by kernel_rfl) (by simp) (AllDyn.cons rfl (fun V hV K hK => ?_) AllDyn.nil)
                      rw [if_pos (by rfl)]
                      have hC := eqStr_any pz p9 iz cq x.l.length c9 (txb x.l) (txb x.l) V (by have h := HRV.out V hV; rw [List.take_of_length_le HIJ.out.1] at h; exact h) (HLV.out V hV) (by have := HXL.out; have := HIJ.out; omega) (by have := HXL.out; omega)
                      rw [sameT_yes rfl] at hC
                      refine wp_enterX 26 #[.slice pz iz cq, .slice p9 x.l.length c9] (by first | (go_simp; done) | (go_simp; rfl)) (fun v V' => v = .bool true ∧ Below V.heap.size V V') (hC.mono fun e V' ⟨h1, h2⟩ => ⟨_, h1, rfl, h2⟩) ?_
                      rintro v V1 ⟨rfl, hb⟩
                      refine hK.out (Bl w11) _ _ (Bl.stays w11) (fun _ _ h => h) (Bl.stays w11 _ _ hV hb) ?_
                      clear hK K hV hC hb
                      (try simp only [Act.put, List.getElem_toArray, List.getElem_cons_zero, List.getElem_cons_succ, List.setIfInBounds_toArray, List.set_cons_zero, List.set_cons_succ])
                      refine wpDyn_take ?vT4x19 (Bl.stays w11) (fun _ h => h) (i := 19) rfl (by kernel_rfl) (by kernel_rfl) (by kernel_rfl) (by kernel_rfl) (by kernel_rfl) (fun _ _ _ h => h) (Gives.value (by rfl) ?yT4x19) ?rT4x19
                      case yT4x19 => (intro w' hSw; go_simp; try with_reducible rfl)
                      (try simp only [Act.put, List.getElem_toArray, List.getElem_cons_zero, List.getElem_cons_succ, List.setIfInBounds_toArray, List.set_cons_zero, List.set_cons_succ])
                      refine wpDyn_take ?vT4x20 (Bl.stays w11) (fun _ h => h) (i := 20) rfl (by kernel_rfl) (by kernel_rfl) (by kernel_rfl) (by kernel_rfl) (by kernel_rfl) (fun _ _ _ h => h) (Gives.value (by rfl) ?yT4x20) ?rT4x20
                      case yT4x20 => (intro w' hSw; go_simp; try with_reducible rfl)
                      (try simp only [Act.put, List.getElem_toArray, List.getElem_cons_zero, List.getElem_cons_succ, List.setIfInBounds_toArray, List.set_cons_zero, List.set_cons_succ])
                      refine wpDyn_done (by kernel_rfl) (fun W3 hW3 => ?_) _
                      have HB34 : Hid (Below w11.heap.size w11 W3) := Bl.out' hW3
                      have HC0b : Hid (W3.cell? ⟨bx, 2, none⟩ = some (.string sB)) := cell_below HB34.out HCb.out
                      have HC0l : Hid (W3.cell? ⟨bx, 3, none⟩ = some (.slice pz iz cq)) := cell_below HB34.out HCl.out
                      have HB0b : Hid (W3.cell? ⟨bb, ob + nk, none⟩ = some (.string (strOfNums tt.r.base))) := cell_below HB34.out HBb0.out
                      have HR0r : Hid (W3.cell? ⟨br, or_ + nk, none⟩ = some (.slice pl tt.r.recs.length cl)) := cell_below HB34.out HRr0.out
                      clear hW3
                      go_wp2_with fail
                      have hS8 : Bl W3 W3.drew := (Below.refl _ _).drew
                      refine wp_region_dyn [0, 1, 2, 3, 4, 5, 6, 7, 8, 9, 10, 11, 12, 13, 14, 15, 16, 17, 18, 19, 20, 21, 22, 23, 24, 25, 26, 28, 29] (Bl W3) (Bl W3) (by kernel_rfl) hS8 ?_
                      clear hS8
                      refine wpDyn_take ?vT5x0 (Bl.stays W3) (fun _ h => h) (i := 0) rfl (by kernel_rfl) (by kernel_rfl) (by kernel_rfl) (by kernel_rfl) (by kernel_rfl) (fun _ _ _ h => h) (Gives.value (by rfl) ?yT5x0) ?rT5x0
                      case yT5x0 => (intro w' hSw; go_simp; try with_reducible rfl)
                      (try simp only [Act.put, List.getElem_toArray, List.getElem_cons_zero, List.getElem_cons_succ, List.setIfInBounds_toArray, List.set_cons_zero, List.set_cons_succ])
                      refine wpDyn_take ?vT5x1 (Bl.stays W3) (fun _ h => h) (i := 1) rfl (by kernel_rfl) (by kernel_rfl) (by kernel_rfl) (by kernel_rfl) (by kernel_rfl) (fun _ _ _ h => h) (Gives.value (by rfl) ?yT5x1) ?rT5x1
                      case yT5x1 => (intro w' hSw; go_simp; try with_reducible rfl)
                      (try simp only [Act.put, List.getElem_toArray, List.getElem_cons_zero, List.getElem_cons_succ, List.setIfInBounds_toArray, List.set_cons_zero, List.set_cons_succ])
                      refine wpDyn_take undef (Bl.stays W3) (fun _ h => h) (i := 2) rfl (by kernel_rfl) (by kernel_rfl) (by kernel_rfl) (by kernel_rfl) (by kernel_rfl) (fun _ _ _ h => h) (Gives.not (by rfl)) ?rT5x2
                      (try simp only [Act.put, List.getElem_toArray, List.getElem_cons_zero, List.getElem_cons_succ, List.setIfInBounds_toArray, List.set_cons_zero, List.set_cons_succ])
                      refine wpDyn_take undef (Bl.stays W3) (fun _ h => h) (i := 3) rfl (by kernel_rfl) (by kernel_rfl) (by kernel_rfl) (by kernel_rfl) (by kernel_rfl) (fun _ _ _ h => h) (Gives.not (by rfl)) ?rT5x3
                      (try simp only [Act.put, List.getElem_toArray, List.getElem_cons_zero, List.getElem_cons_succ, List.setIfInBounds_toArray, List.set_cons_zero, List.set_cons_succ])
                      refine wpDyn_take undef (Bl.stays W3) (fun _ h => h) (i := 4) rfl (by kernel_rfl) (by kernel_rfl) (by kernel_rfl) (by kernel_rfl) (by kernel_rfl) (fun _ _ _ h => h) (Gives.not (by rfl)) ?rT5x4
                      (try simp only [Act.put, List.getElem_toArray, List.getElem_cons_zero, List.getElem_cons_succ, List.setIfInBounds_toArray, List.set_cons_zero, List.set_cons_succ])
                      refine wpDyn_take undef (Bl.stays W3) (fun _ h => h) (i := 5) rfl (by kernel_rfl) (by kernel_rfl) (by kernel_rfl) (by kernel_rfl) (by kernel_rfl) (fun _ _ _ h => h) (Gives.not (by rfl)) ?rT5x5
                      (try simp only [Act.put, List.getElem_toArray, List.getElem_cons_zero, List.getElem_cons_succ, List.setIfInBounds_toArray, List.set_cons_zero, List.set_cons_succ])
                      refine wpDyn_take undef (Bl.stays W3) (fun _ h => h) (i := 6) rfl (by kernel_rfl) (by kernel_rfl) (by kernel_rfl) (by kernel_rfl) (by kernel_rfl) (fun _ _ _ h => h) (Gives.not (by rfl)) ?rT5x6
                      (try simp only [Act.put, List.getElem_toArray, List.getElem_cons_zero, List.getElem_cons_succ, List.setIfInBounds_toArray, List.set_cons_zero, List.set_cons_succ])
                      refine wpDyn_take undef (Bl.stays W3) (fun _ h => h) (i := 7) rfl (by kernel_rfl) (by kernel_rfl) (by kernel_rfl) (by kernel_rfl) (by kernel_rfl) (fun _ _ _ h => h) (Gives.not (by rfl)) ?rT5x7
                      (try simp only [Act.put, List.getElem_toArray, List.getElem_cons_zero, List.getElem_cons_succ, List.setIfInBounds_toArray, List.set_cons_zero, List.set_cons_succ])
                      refine wpDyn_take undef (Bl.stays W3) (fun _ h => h) (i := 8) rfl (by kernel_rfl) (by kernel_rfl) (by kernel_rfl) (by kernel_rfl) (by kernel_rfl) (fun _ _ _ h => h) (Gives.not (by rfl)) ?rT5x8
                      (try simp only [Act.put, List.getElem_toArray, List.getElem_cons_zero, List.getElem_cons_succ, List.setIfInBounds_toArray, List.set_cons_zero, List.set_cons_succ])
                      refine wpDyn_take undef (Bl.stays W3) (fun _ h => h) (i := 9) rfl (by kernel_rfl) (by kernel_rfl) (by kernel_rfl) (by kernel_rfl) (by kernel_rfl) (fun _ _ _ h => h) (Gives.not (by rfl)) ?rT5x9
                      (try simp only [Act.put, List.getElem_toArray, List.getElem_cons_zero, List.getElem_cons_succ, List.setIfInBounds_toArray, List.set_cons_zero, List.set_cons_succ])
                      refine wpDyn_take undef (Bl.stays W3) (fun _ h => h) (i := 10) rfl (by kernel_rfl) (by kernel_rfl) (by kernel_rfl) (by kernel_rfl) (by kernel_rfl) (fun _ _ _ h => h) (Gives.not (by rfl)) ?rT5x10
                      (try simp only [Act.put, List.getElem_toArray, List.getElem_cons_zero, List.getElem_cons_succ, List.setIfInBounds_toArray, List.set_cons_zero, List.set_cons_succ])
                      refine wpDyn_take undef (Bl.stays W3) (fun _ h => h) (i := 11) rfl (by kernel_rfl) (by kernel_rfl) (by kernel_rfl) (by kernel_rfl) (by kernel_rfl) (fun _ _ _ h => h) (Gives.not (by rfl)) ?rT5x11
                      (try simp only [Act.put, List.getElem_toArray, List.getElem_cons_zero, List.getElem_cons_succ, List.setIfInBounds_toArray, List.set_cons_zero, List.set_cons_succ])
                      refine wpDyn_take undef (Bl.stays W3) (fun _ h => h) (i := 12) rfl (by kernel_rfl) (by kernel_rfl) (by kernel_rfl) (by kernel_rfl) (by kernel_rfl) (fun _ _ _ h => h) (Gives.not (by rfl)) ?rT5x12
                      (try simp only [Act.put, List.getElem_toArray, List.getElem_cons_zero, List.getElem_cons_succ, List.setIfInBounds_toArray, List.set_cons_zero, List.set_cons_succ])
                      refine wpDyn_take undef (Bl.stays W3) (fun _ h => h) (i := 13) rfl (by kernel_rfl) (by kernel_rfl) (by kernel_rfl) (by kernel_rfl) (by kernel_rfl) (fun _ _ _ h => h) (Gives.not (by rfl)) ?rT5x13
                      (try simp only [Act.put, List.getElem_toArray, List.getElem_cons_zero, List.getElem_cons_succ, List.setIfInBounds_toArray, List.set_cons_zero, List.set_cons_succ])
                      refine wpDyn_take undef (Bl.stays W3) (fun _ h => h) (i := 14) rfl (by kernel_rfl) (by kernel_rfl) (by kernel_rfl) (by kernel_rfl) (by kernel_rfl) (fun _ _ _ h => h) (Gives.not (by rfl)) ?rT5x14
                      (try simp only [Act.put, List.getElem_toArray, List.getElem_cons_zero, List.getElem_cons_succ, List.setIfInBounds_toArray, List.set_cons_zero, List.set_cons_succ])
                      refine wpDyn_take undef (Bl.stays W3) (fun _ h => h) (i := 15) rfl (by kernel_rfl) (by kernel_rfl) (by kernel_rfl) (by kernel_rfl) (by kernel_rfl) (fun _ _ _ h => h) (Gives.not (by rfl)) ?rT5x15
                      (try simp only [Act.put, List.getElem_toArray, List.getElem_cons_zero, List.getElem_cons_succ, List.setIfInBounds_toArray, List.set_cons_zero, List.set_cons_succ])
                      refine wpDyn_take undef (Bl.stays W3) (fun _ h => h) (i := 16) rfl (by kernel_rfl) (by kernel_rfl) (by kernel_rfl) (by kernel_rfl) (by kernel_rfl) (fun _ _ _ h => h) (Gives.not (by rfl)) ?rT5x16
                      (try simp only [Act.put, List.getElem_toArray, List.getElem_cons_zero, List.getElem_cons_succ, List.setIfInBounds_toArray, List.set_cons_zero, List.set_cons_succ])
                      refine wpDyn_take undef (Bl.stays W3) (fun _ h => h) (i := 17) rfl (by kernel_rfl) (by kernel_rfl) (by kernel_rfl) (by kernel_rfl) (by kernel_rfl) (fun _ _ _ h => h) (Gives.not (by rfl)) ?rT5x17
                      (try simp only [Act.put, List.getElem_toArray, List.getElem_cons_zero, List.getElem_cons_succ, List.setIfInBounds_toArray, List.set_cons_zero, List.set_cons_succ])
                      refine wpDyn_take undef (Bl.stays W3) (fun _ h => h) (i := 18) rfl (by kernel_rfl) (by kernel_rfl) (by kernel_rfl) (by kernel_rfl) (by kernel_rfl) (fun _ _ _ h => h) (Gives.not (by rfl)) ?rT5x18
                      (try simp only [Act.put, List.getElem_toArray, List.getElem_cons_zero, List.getElem_cons_succ, List.setIfInBounds_toArray, List.set_cons_zero, List.set_cons_succ])
                      refine wpDyn_take undef (Bl.stays W3) (fun _ h => h) (i := 19) rfl (by kernel_rfl) (by kernel_rfl) (by kernel_rfl) (by kernel_rfl) (by kernel_rfl) (fun _ _ _ h => h) (Gives.not (by rfl)) ?rT5x19
                      (try simp only [Act.put, List.getElem_toArray, List.getElem_cons_zero, List.getElem_cons_succ, List.setIfInBounds_toArray, List.set_cons_zero, List.set_cons_succ])
                      refine wpDyn_take undef (Bl.stays W3) (fun _ h => h) (i := 20) rfl (by kernel_rfl) (by kernel_rfl) (by kernel_rfl) (by kernel_rfl) (by kernel_rfl) (fun _ _ _ h => h) (Gives.not (by rfl)) ?rT5x20
                      (try simp only [Act.put, List.getElem_toArray, List.getElem_cons_zero, List.getElem_cons_succ, List.setIfInBounds_toArray, List.set_cons_zero, List.set_cons_succ])
                      refine wpDyn_take undef (Bl.stays W3) (fun _ h => h) (i := 21) rfl (by kernel_rfl) (by kernel_rfl) (by kernel_rfl) (by kernel_rfl) (by kernel_rfl) (fun _ _ _ h => h) (Gives.not (by rfl)) ?rT5x21
                      (try simp only [Act.put, List.getElem_toArray, List.getElem_cons_zero, List.getElem_cons_succ, List.setIfInBounds_toArray, List.set_cons_zero, List.set_cons_succ])
                      refine wpDyn_take undef (Bl.stays W3) (fun _ h => h) (i := 22) rfl (by kernel_rfl) (by kernel_rfl) (by kernel_rfl) (by kernel_rfl) (by kernel_rfl) (fun _ _ _ h => h) (Gives.not (by rfl)) ?rT5x22
                      (try simp only [Act.put, List.getElem_toArray, List.getElem_cons_zero, List.getElem_cons_succ, List.setIfInBounds_toArray, List.set_cons_zero, List.set_cons_succ])
                      refine wpDyn_take undef (Bl.stays W3) (fun _ h => h) (i := 23) rfl (by kernel_rfl) (by kernel_rfl) (by kernel_rfl) (by kernel_rfl) (by kernel_rfl) (fun _ _ _ h => h) (Gives.not (by rfl)) ?rT5x23
                      (try simp only [Act.put, List.getElem_toArray, List.getElem_cons_zero, List.getElem_cons_succ, List.setIfInBounds_toArray, List.set_cons_zero, List.set_cons_succ])
                      refine wpDyn_take undef (Bl.stays W3) (fun _ h => h) (i := 24) rfl (by kernel_rfl) (by kernel_rfl) (by kernel_rfl) (by kernel_rfl) (by kernel_rfl) (fun _ _ _ h => h) (Gives.not (by rfl)) ?rT5x24
                      (try simp only [Act.put, List.getElem_toArray, List.getElem_cons_zero, List.getElem_cons_succ, List.setIfInBounds_toArray, List.set_cons_zero, List.set_cons_succ])
                      refine wpDyn_take ?vT5x25 (Bl.stays W3) (fun _ h => h) (i := 25) rfl (by kernel_rfl) (by kernel_rfl) (by kernel_rfl) (by kernel_rfl) (by kernel_rfl) (fun _ _ _ h => h) (Gives.value (by rfl) ?yT5x25) ?rT5x25
                      case yT5x25 => (intro w' hSw; go_simp; try with_reducible rfl)
                      (try simp only [Act.put, List.getElem_toArray, List.getElem_cons_zero, List.getElem_cons_succ, List.setIfInBounds_toArray, List.set_cons_zero, List.set_cons_succ])
                      refine wpDyn_take ?vT5x26 (Bl.stays W3) (fun _ h => h) (i := 26) rfl (by kernel_rfl) (by kernel_rfl) (by kernel_rfl) (by kernel_rfl) (by kernel_rfl) (fun _ _ _ h => h) (Gives.value (by rfl) ?yT5x26) ?rT5x26
                      case yT5x26 => (intro w' hSw; go_simp; try with_reducible rfl)
                      (try simp only [Act.put, List.getElem_toArray, List.getElem_cons_zero, List.getElem_cons_succ, List.setIfInBounds_toArray, List.set_cons_zero, List.set_cons_succ])
                      refine wpDyn_ready (rs := [27]) (by kernel_rfl) (by simp) (AllDyn.cons rfl (fun V hV K hK => ?_) AllDyn.nil)
                      rw [if_pos (by rfl)]
                      have hC := awake_any V
                      refine wp_enterX 8 #[] (by first | (go_simp; done) | (go_simp; rfl)) (fun v V' => v = .bool true ∧ Below V.heap.size V V') (hC.mono fun e V' ⟨h1, h2⟩ => ⟨_, h1, rfl, h2⟩) ?_
                      rintro v V1 ⟨rfl, hb⟩
                      refine hK.out (Bl W3) _ _ (Bl.stays W3) (fun _ _ h => h) (Bl.stays W3 _ _ hV hb) ?_
                      clear hK K hV hC hb
                      (try simp only [Act.put, List.getElem_toArray, List.getElem_cons_zero, List.getElem_cons_succ, List.setIfInBounds_toArray, List.set_cons_zero, List.set_cons_succ])
                      refine wpDyn_take ?vT5x28 (Bl.stays W3) (fun _ h => h) (i := 28) rfl (by kernel_rfl) (by kernel_rfl) (by kernel_rfl) (by kernel_rfl) (by kernel_rfl) (fun _ _ _ h => h) (Gives.value (by rfl) ?yT5x28) ?rT5x28
                      case yT5x28 => (intro w' hSw; go_simp; try with_reducible rfl)
                      (try simp only [Act.put, List.getElem_toArray, List.getElem_cons_zero, List.getElem_cons_succ, List.setIfInBounds_toArray, List.set_cons_zero, List.set_cons_succ])
                      refine wpDyn_take ?vT5x29 (Bl.stays W3) (fun _ h => h) (i := 29) rfl (by kernel_rfl) (by kernel_rfl) (by kernel_rfl) (by kernel_rfl) (by kernel_rfl) (fun _ _ _ h => h) (Gives.value (by rfl) ?yT5x29) ?rT5x29
                      case yT5x29 => (intro w' hSw; go_simp; try with_reducible rfl)
                      (try simp only [Act.put, List.getElem_toArray, List.getElem_cons_zero, List.getElem_cons_succ, List.setIfInBounds_toArray, List.set_cons_zero, List.set_cons_succ])
                      refine wpDyn_done (by kernel_rfl) (fun W4 hW4 => ?_) _
                      have HB99 : Hid (Below H w W4) := HB3.out.trans ((HB11.out.trans ((HB34.out.trans ((Bl.out' hW4).mono HB34.out.size)).mono HL11.out)).mono HHL.out)
                      clear hW4
                      go_wp2_with fail
                      go_ret
                      exact ⟨rfl, by have h := HB99.out; rw [HH.out] at h; exact h⟩
                  · skip
                    as_aux_lemma =>
                      have HGo := hg
                      obtain ⟨dz, hDz⟩ := hD2
                      have hRe := reopened_any W2 L g (lawO ow6 w6.heap.size W2.heap.size) dz _ hDz tt.r.base tt.r.recs kk HGo
                      have HOG : Hid ((lawO ow6 w6.heap.size W2.heap.size) g = 0 ∧ L ≤ W2.heap.size ∧ ∀ k, k < L → Fg2 (lawO ow6 w6.heap.size W2.heap.size) g k) := ⟨hDz.da.og, hDz.lw, fun k hk => ⟨Or.inl (hDz.low k hk), by have := hDz.lg; omega⟩⟩
                      clear hDz
                      go_wp2_with fail
                      refine hRe.mono ?_
                      rintro e5 w10 ⟨pz, iz, cq, rfl, hi1, hi2, hrv, hch⟩
                      clear hRe
                      have hK10 := (HK2.out).op HOG.out.1 hch (fun _ _ => rfl)
                      have hB10 : Below L W2 w10 := hch.lowL HOG.out.2.1 (fun k hk e => e (HOG.out.2.2 k hk))
                      have HB10 : Hid (Below L w3 w10) := (HB2.out).trans hB10
                      have HL10 : Hid (L ≤ w10.heap.size) := Nat.le_trans HOG.out.2.1 hch.size
                      obtain ⟨bx, Hbx⟩ : ∃ z, Hid (z = w10.heap.size) := ⟨_, rfl⟩
                      have hba := below_alloc w10 (.cells #[.pointer none, .int .i64 0, .string (strOfNums tt.r.base), .slice pz iz cq, .int .i64 0, .int .i64 0] 59)
                      have hAt := At.new 59 w10 #[.pointer none, .int .i64 0, .string (strOfNums tt.r.base), .slice pz iz cq, .int .i64 0, .int .i64 0]
                      rw [← Hbx.out] at hAt
                      obtain ⟨w11, Hw11⟩ : ∃ z, Hid (z = w10.alloc (.cells #[.pointer none, .int .i64 0, .string (strOfNums tt.r.base), .slice pz iz cq, .int .i64 0, .int .i64 0] 59)) := ⟨_, rfl⟩
                      rw [← Hw11.out] at hba hAt
                      have hK11 := hK10.below hba
                      have HB11 : Hid (Below L w3 w11) := HB10.out.trans (hba.mono HL10.out)
                      have HL11 : Hid (L ≤ w11.heap.size) := Nat.le_trans HL10.out hba.size
                      obtain ⟨sB, HsB⟩ : ∃ z, Hid (z = strOfNums tt.r.base) := ⟨_, rfl⟩
                      have HCb : Hid (w11.cell? ⟨bx, 2, none⟩ = some (.string sB)) := by rw [HsB.out]; exact hAt.cell 2
                      have HCl : Hid (w11.cell? ⟨bx, 3, none⟩ = some (.slice pz iz cq)) := hAt.cell 3
                      have HIJ : Hid (kk ≤ iz ∧ iz ≤ (tt.r.recs).length) := ⟨hi1, hi2⟩
                      have HRV : Hid (∀ V, Bl w11 V → RdV V pz iz cq (txt (txb ((tt.r.recs).take iz)))) := fun V h => (hrv.below hba).below (Bl.out' h)
                      have HK11 : Hid (KR w11 (lawO ow6 w6.heap.size W2.heap.size) L (nk + 1) p5 c5 us2 p11 c11 vs2 p9 c9 x.l) := hK11
                      have hOl10 : OwG 9 w10 L pl tt.r.recs.length cl (strs tt.r.recs) := HLO.out.chC hch (fun z e h0 h9 => h9 ⟨Or.inr (HMLx.out z e h0), fun e2 => by have h8 := HMLx.out z e h0; rw [e2, HOG.out.1] at h8; cases h8⟩)
                      have HOl : Hid (∀ V, Bl w11 V → RdV V pl tt.r.recs.length cl (txt (txb tt.r.recs))) := fun V h => by rw [← strs_txb]; exact (hOl10.rd.below hba).below (Bl.out' h)
                      clear hOl10
                      clear hK10 hK11 hB10 hch hrv hi1 hi2 hba hAt HB10 HL10 HOG
                      obtain ⟨bb, ob, hpb, hcb⟩ := HK11.out.bs.rd.cells (Nat.succ_pos _)
                      obtain ⟨br, or_, hpr, hcr⟩ := HK11.out.rs.rd.cells (Nat.succ_pos _)
                      have hcb1 := hcb (nk + 1) (Nat.lt_succ_self _)
                      have hcr1 := hcr (nk + 1) (Nat.lt_succ_self _)
                      have hcb0 := hcb nk (by omega)
                      have hcr0 := hcr nk (by omega)
                      have hul : us2.length = nk + 1 + 1 := by have := HK11.out.bs.len; rw [kstrs_len] at this; exact this
                      rw [HK11.out.lv] at hcr1
                      rw [HVV.out.2.2] at hcr0
                      rw [kstrs_getD (by omega), HVV.out.1] at hcb1
                      rw [kstrs_getD (by omega), HVV.out.2.1] at hcb0
                      have HBb1 : Hid (w11.cell? ⟨bb, ob + (nk + 1), none⟩ = some (.string (strOfNums x.b))) := hcb1
                      have HRr1 : Hid (w11.cell? ⟨br, or_ + (nk + 1), none⟩ = some (.slice p9 x.l.length c9)) := hcr1
                      have HBb0 : Hid (w11.cell? ⟨bb, ob + nk, none⟩ = some (.string (strOfNums tt.r.base))) := hcb0
                      have HRr0 : Hid (w11.cell? ⟨br, or_ + nk, none⟩ = some (.slice pl tt.r.recs.length cl)) := hcr0
                      have HLV : Hid (∀ V, Bl w11 V → RdV V p9 x.l.length c9 (txt (txb x.l))) := fun V h => by rw [← strs_txb]; exact HK11.out.lr.rd.below (Bl.out' h)
                      have HPB : Hid (p5 = some ⟨bb, ob, none⟩ ∧ p11 = some ⟨br, or_, none⟩) := ⟨hpb, hpr⟩
                      rw [HPB.out.1, HPB.out.2]
                      have hnk1 : ((nk : Int) + 1) < (((nk + 1 + 1 : Nat)) : Int) := by omega
                      have hnk2 : ((nk : Int)) < (((nk + 1 + 1 : Nat)) : Int) := by omega
                      have hnkT : ((nk : Int) + 1).toNat = nk + 1 := by omega
                      have hnk0 : (0 : Int) ≤ (nk : Int) + 1 := by omega
                      have hwr1 : IntKind.i64.wrap (nk : Int) = (nk : Int) := by rw [IntKind.wrap_i64]; omega
                      clear hcb hcr hcb1 hcr1 hcb0 hcr0 hpb hpr hul
                      go_wp2_with fail
                      rw [← Hw11.out, ← HsB.out, ← Hbx.out]
                      have HB0x : Hid (∀ W : World, W.cell? ⟨bb, ob + nk, none⟩ = some (.string (strOfNums tt.r.base)) → W.cell? ⟨bb, ob + nk, none⟩ = some (.string sB)) := fun W h => by rw [HsB.out]; exact h
                      by_cases hEq : sB = strOfNums x.b
                      · have HBx : Hid (w11.cell? ⟨bb, ob + (nk + 1), none⟩ = some (.string sB)) := by rw [hEq]; exact HBb1.out
                        clear hEq
                        obtain ⟨bq, Hbq⟩ : ∃ z, Hid (z = sameT (txb (tt.r.recs.take iz)) (txb x.l)) := ⟨_, rfl⟩
                        cases bq with
                        | true =>
                          have hS8 : Bl w11 w11.drew := (Below.refl _ _).drew
                          refine wp_region_dyn [0, 1, 2, 3, 4, 5, 6, 7, 8, 9, 10, 11, 12, 13, 14, 15, 16, 17, 19, 20] (Bl w11) (Bl w11) (by kernel_rfl) hS8 ?_
                          clear hS8
                          refine wpDyn_take ?vT6x0 (Bl.stays w11) (fun _ h => h) (i := 0) rfl (by kernel_rfl) (by kernel_rfl) (by kernel_rfl) (by kernel_rfl) (by kernel_rfl) (fun _ _ _ h => h) (Gives.value (by rfl) ?yT6x0) ?rT6x0
                          case yT6x0 => (intro w' hSw; go_simp; try with_reducible rfl)
                          (try simp only [Act.put, List.getElem_toArray, List.getElem_cons_zero, List.getElem_cons_succ, List.setIfInBounds_toArray, List.set_cons_zero, List.set_cons_succ])
                          refine wpDyn_take ?vT6x1 (Bl.stays w11) (fun _ h => h) (i := 1) rfl (by kernel_rfl) (by kernel_rfl) (by kernel_rfl) (by kernel_rfl) (by kernel_rfl) (fun _ _ _ h => h) (Gives.value (by rfl) ?yT6x1) ?rT6x1
                          case yT6x1 => (intro w' hSw; go_simp; try with_reducible rfl)
                          (try simp only [Act.put, List.getElem_toArray, List.getElem_cons_zero, List.getElem_cons_succ, List.setIfInBounds_toArray, List.set_cons_zero, List.set_cons_succ])
                          refine wpDyn_take ?vT6x2 (Bl.stays w11) (fun _ h => h) (i := 2) rfl (by kernel_rfl) (by kernel_rfl) (by kernel_rfl) (by kernel_rfl) (by kernel_rfl) (fun _ _ _ h => h) (Gives.value (by rfl) ?yT6x2) ?rT6x2
                          case yT6x2 => (intro w' hSw; go_simp; try with_reducible rfl)
                          (try simp only [Act.put, List.getElem_toArray, List.getElem_cons_zero, List.getElem_cons_succ, List.setIfInBounds_toArray, List.set_cons_zero, List.set_cons_succ])
                          refine wpDyn_take ?vT6x3 (Bl.stays w11) (fun _ h => h) (i := 3) rfl (by kernel_rfl) (by kernel_rfl) (by kernel_rfl) (by kernel_rfl) (by kernel_rfl) (fun _ _ _ h => h) (Gives.value (by rfl) ?yT6x3) ?rT6x3
                          case yT6x3 => (intro w' hSw; go_simp; try with_reducible rfl)
                          (try simp only [Act.put, List.getElem_toArray, List.getElem_cons_zero, List.getElem_cons_succ, List.setIfInBounds_toArray, List.set_cons_zero, List.set_cons_succ])
                          refine wpDyn_take ?vT6x4 (Bl.stays w11) (fun _ h => h) (i := 4) rfl (by kernel_rfl) (by kernel_rfl) (by kernel_rfl) (by kernel_rfl) (by kernel_rfl) (fun _ _ _ h => h) (Gives.value (by rfl) ?yT6x4) ?rT6x4
                          case yT6x4 => (intro w' hSw; have hcl := cell_below (Bl.out' hSw) HCb.out; clear hSw; go_simp; try with_reducible rfl)
                          (try simp only [Act.put, List.getElem_toArray, List.getElem_cons_zero, List.getElem_cons_succ, List.setIfInBounds_toArray, List.set_cons_zero, List.set_cons_succ])
                          refine wpDyn_take ?vT6x5 (Bl.stays w11) (fun _ h => h) (i := 5) rfl (by kernel_rfl) (by kernel_rfl) (by kernel_rfl) (by kernel_rfl) (by kernel_rfl) (fun _ _ _ h => h) (Gives.value (by rfl) ?yT6x5) ?rT6x5
                          case yT6x5 => (intro w' hSw; go_simp; try with_reducible rfl)
                          (try simp only [Act.put, List.getElem_toArray, List.getElem_cons_zero, List.getElem_cons_succ, List.setIfInBounds_toArray, List.set_cons_zero, List.set_cons_succ])
                          refine wpDyn_take ?vT6x6 (Bl.stays w11) (fun _ h => h) (i := 6) rfl (by kernel_rfl) (by kernel_rfl) (by kernel_rfl) (by kernel_rfl) (by kernel_rfl) (fun _ _ _ h => h) (Gives.value (by rfl) ?yT6x6) ?rT6x6
                          case yT6x6 => (intro w' hSw; go_simp; try with_reducible rfl)
                          (try simp only [Act.put, List.getElem_toArray, List.getElem_cons_zero, List.getElem_cons_succ, List.setIfInBounds_toArray, List.set_cons_zero, List.set_cons_succ])
                          refine wpDyn_take (.pointer (some ⟨bb, ob + (nk + 1), none⟩)) (Bl.stays w11) (fun _ h => h) (i := 7) rfl (by kernel_rfl) (by kernel_rfl) (by kernel_rfl) (by kernel_rfl) (by kernel_rfl) (fun _ _ _ h => h) (Gives.value (by rfl) ?yT6x7) ?rT6x7
                          case yT6x7 => (intro w' hSw; go_simp; try (intro hx; exfalso; omega))
                          (try simp only [Act.put, List.getElem_toArray, List.getElem_cons_zero, List.getElem_cons_succ, List.setIfInBounds_toArray, List.set_cons_zero, List.set_cons_succ])
                          refine wpDyn_take ?vT6x8 (Bl.stays w11) (fun _ h => h) (i := 8) rfl (by kernel_rfl) (by kernel_rfl) (by kernel_rfl) (by kernel_rfl) (by kernel_rfl) (fun _ _ _ h => h) (Gives.value (by rfl) ?yT6x8) ?rT6x8
                          case yT6x8 => (intro w' hSw; have hcl := cell_below (Bl.out' hSw) HBx.out; clear hSw; go_simp; try with_reducible rfl)
                          (try simp only [Act.put, List.getElem_toArray, List.getElem_cons_zero, List.getElem_cons_succ, List.setIfInBounds_toArray, List.set_cons_zero, List.set_cons_succ])
                          refine wpDyn_take ?vT6x9 (Bl.stays w11) (fun _ h => h) (i := 9) rfl (by kernel_rfl) (by kernel_rfl) (by kernel_rfl) (by kernel_rfl) (by kernel_rfl) (fun _ _ _ h => h) (Gives.value (by rfl) ?yT6x9) ?rT6x9
                          case yT6x9 => (intro w' hSw; go_simp; try with_reducible rfl)
                          (try simp only [Act.put, List.getElem_toArray, List.getElem_cons_zero, List.getElem_cons_succ, List.setIfInBounds_toArray, List.set_cons_zero, List.set_cons_succ])
                          refine wpDyn_take ?vT6x10 (Bl.stays w11) (fun _ h => h) (i := 10) rfl (by kernel_rfl) (by kernel_rfl) (by kernel_rfl) (by kernel_rfl) (by kernel_rfl) (fun _ _ _ h => h) (Gives.value (by rfl) ?yT6x10) ?rT6x10
                          case yT6x10 => (intro w' hSw; go_simp; try with_reducible rfl)
                          (try simp only [Act.put, List.getElem_toArray, List.getElem_cons_zero, List.getElem_cons_succ, List.setIfInBounds_toArray, List.set_cons_zero, List.set_cons_succ])
                          refine wpDyn_take ?vT6x11 (Bl.stays w11) (fun _ h => h) (i := 11) rfl (by kernel_rfl) (by kernel_rfl) (by kernel_rfl) (by kernel_rfl) (by kernel_rfl) (fun _ _ _ h => h) (Gives.value (by rfl) ?yT6x11) ?rT6x11
                          case yT6x11 => (intro w' hSw; go_simp; try with_reducible rfl)
                          (try simp only [Act.put, List.getElem_toArray, List.getElem_cons_zero, List.getElem_cons_succ, List.setIfInBounds_toArray, List.set_cons_zero, List.set_cons_succ])
                          refine wpDyn_take ?vT6x12 (Bl.stays w11) (fun _ h => h) (i := 12) rfl (by kernel_rfl) (by kernel_rfl) (by kernel_rfl) (by kernel_rfl) (by kernel_rfl) (fun _ _ _ h => h) (Gives.value (by rfl) ?yT6x12) ?rT6x12
                          case yT6x12 => (intro w' hSw; go_simp; try with_reducible rfl)
                          (try simp only [Act.put, List.getElem_toArray, List.getElem_cons_zero, List.getElem_cons_succ, List.setIfInBounds_toArray, List.set_cons_zero, List.set_cons_succ])
                          refine wpDyn_take ?vT6x13 (Bl.stays w11) (fun _ h => h) (i := 13) rfl (by kernel_rfl) (by kernel_rfl) (by kernel_rfl) (by kernel_rfl) (by kernel_rfl) (fun _ _ _ h => h) (Gives.value (by rfl) ?yT6x13) ?rT6x13
                          case yT6x13 => (intro w' hSw; have hcl := cell_below (Bl.out' hSw) HCl.out; clear hSw; go_simp; try with_reducible rfl)
                          (try simp only [Act.put, List.getElem_toArray, List.getElem_cons_zero, List.getElem_cons_succ, List.setIfInBounds_toArray, List.set_cons_zero, List.set_cons_succ])
                          refine wpDyn_take ?vT6x14 (Bl.stays w11) (fun _ h => h) (i := 14) rfl (by kernel_rfl) (by kernel_rfl) (by kernel_rfl) (by kernel_rfl) (by kernel_rfl) (fun _ _ _ h => h) (Gives.value (by rfl) ?yT6x14) ?rT6x14
                          case yT6x14 => (intro w' hSw; go_simp; try with_reducible rfl)
                          (try simp only [Act.put, List.getElem_toArray, List.getElem_cons_zero, List.getElem_cons_succ, List.setIfInBounds_toArray, List.set_cons_zero, List.set_cons_succ])
                          refine wpDyn_take ?vT6x15 (Bl.stays w11) (fun _ h => h) (i := 15) rfl (by kernel_rfl) (by kernel_rfl) (by kernel_rfl) (by kernel_rfl) (by kernel_rfl) (fun _ _ _ h => h) (Gives.value (by rfl) ?yT6x15) ?rT6x15
                          case yT6x15 => (intro w' hSw; go_simp; try with_reducible rfl)
                          (try simp only [Act.put, List.getElem_toArray, List.getElem_cons_zero, List.getElem_cons_succ, List.setIfInBounds_toArray, List.set_cons_zero, List.set_cons_succ])
                          refine wpDyn_take (.pointer (some ⟨br, or_ + (nk + 1), none⟩)) (Bl.stays w11) (fun _ h => h) (i := 16) rfl (by kernel_rfl) (by kernel_rfl) (by kernel_rfl) (by kernel_rfl) (by kernel_rfl) (fun _ _ _ h => h) (Gives.value (by rfl) ?yT6x16) ?rT6x16
                          case yT6x16 => (intro w' hSw; go_simp; try (intro hx; exfalso; omega))
                          (try simp only [Act.put, List.getElem_toArray, List.getElem_cons_zero, List.getElem_cons_succ, List.setIfInBounds_toArray, List.set_cons_zero, List.set_cons_succ])
                          refine wpDyn_take ?vT6x17 (Bl.stays w11) (fun _ h => h) (i := 17) rfl (by kernel_rfl) (by kernel_rfl) (by kernel_rfl) (by kernel_rfl) (by kernel_rfl) (fun _ _ _ h => h) (Gives.value (by rfl) ?yT6x17) ?rT6x17
                          case yT6x17 => (intro w' hSw; have hcl := cell_below (Bl.out' hSw) HRr1.out; clear hSw; go_simp; try with_reducible rfl)
                          (try simp only [Act.put, List.getElem_toArray, List.getElem_cons_zero, List.getElem_cons_succ, List.setIfInBounds_toArray, List.set_cons_zero, List.set_cons_succ])
                          refine wpDyn_ready (rs := [18]) (by kernel_rfl) (by simp) (AllDyn.cons rfl (fun V hV K hK => ?_) AllDyn.nil)
                          rw [if_pos (by rfl)]
                          have hC := eqStr_any pz p9 iz cq x.l.length c9 (txb (tt.r.recs.take iz)) (txb x.l) V (HRV.out V hV) (HLV.out V hV) (by have := HRF.out; have := HIJ.out; omega) (by have := HXL.out; omega)
                          rw [← Hbq.out] at hC
                          refine wp_enterX 26 #[.slice pz iz cq, .slice p9 x.l.length c9] (by first | (go_simp; done) | (go_simp; rfl)) (fun v V' => v = .bool true ∧ Below V.heap.size V V') (hC.mono fun e V' ⟨h1, h2⟩ => ⟨_, h1, rfl, h2⟩) ?_
                          rintro v V1 ⟨rfl, hb⟩
                          refine hK.out (Bl w11) _ _ (Bl.stays w11) (fun _ _ h => h) (Bl.stays w11 _ _ hV hb) ?_
                          clear hK K hV hC hb
                          (try simp only [Act.put, List.getElem_toArray, List.getElem_cons_zero, List.getElem_cons_succ, List.setIfInBounds_toArray, List.set_cons_zero, List.set_cons_succ])
                          refine wpDyn_take ?vT6x19 (Bl.stays w11) (fun _ h => h) (i := 19) rfl (by kernel_rfl) (by kernel_rfl) (by kernel_rfl) (by kernel_rfl) (by kernel_rfl) (fun _ _ _ h => h) (Gives.value (by rfl) ?yT6x19) ?rT6x19
                          case yT6x19 => (intro w' hSw; go_simp; try with_reducible rfl)
                          (try simp only [Act.put, List.getElem_toArray, List.getElem_cons_zero, List.getElem_cons_succ, List.setIfInBounds_toArray, List.set_cons_zero, List.set_cons_succ])
                          refine wpDyn_take ?vT6x20 (Bl.stays w11) (fun _ h => h) (i := 20) rfl (by kernel_rfl) (by kernel_rfl) (by kernel_rfl) (by kernel_rfl) (by kernel_rfl) (fun _ _ _ h => h) (Gives.value (by rfl) ?yT6x20) ?rT6x20
                          case yT6x20 => (intro w' hSw; go_simp; try with_reducible rfl)
                          (try simp only [Act.put, List.getElem_toArray, List.getElem_cons_zero, List.getElem_cons_succ, List.setIfInBounds_toArray, List.set_cons_zero, List.set_cons_succ])
                          refine wpDyn_done (by kernel_rfl) (fun W3 hW3 => ?_) _
                          have HB34 : Hid (Below w11.heap.size w11 W3) := Bl.out' hW3
                          have HC0b : Hid (W3.cell? ⟨bx, 2, none⟩ = some (.string sB)) := cell_below HB34.out HCb.out
                          have HC0l : Hid (W3.cell? ⟨bx, 3, none⟩ = some (.slice pz iz cq)) := cell_below HB34.out HCl.out
                          have HB0b : Hid (W3.cell? ⟨bb, ob + nk, none⟩ = some (.string (strOfNums tt.r.base))) := cell_below HB34.out HBb0.out
                          have HR0r : Hid (W3.cell? ⟨br, or_ + nk, none⟩ = some (.slice pl tt.r.recs.length cl)) := cell_below HB34.out HRr0.out
                          clear hW3
                          go_wp2_with fail
                          have HB0x := (show Hid (W3.cell? ⟨bb, ob + nk, none⟩ = some (.string sB)) from HB0x.out W3 HB0b.out)
                          have hS8 : Bl W3 W3.drew := (Below.refl _ _).drew
                          refine wp_region_dyn [0, 1, 2, 3, 4, 5, 6, 7, 8, 9, 10, 11, 12, 13, 14, 15, 16, 17, 18, 19, 20, 21, 22, 23, 24, 25, 26, 28, 29] (Bl W3) (Bl W3) (by kernel_rfl) hS8 ?_
                          clear hS8
                          refine wpDyn_take ?vT7x0 (Bl.stays W3) (fun _ h => h) (i := 0) rfl (by kernel_rfl) (by kernel_rfl) (by kernel_rfl) (by kernel_rfl) (by kernel_rfl) (fun _ _ _ h => h) (Gives.value (by rfl) ?yT7x0) ?rT7x0
                          case yT7x0 => (intro w' hSw; go_simp; try with_reducible rfl)
                          (try simp only [Act.put, List.getElem_toArray, List.getElem_cons_zero, List.getElem_cons_succ, List.setIfInBounds_toArray, List.set_cons_zero, List.set_cons_succ])
                          refine wpDyn_take ?vT7x1 (Bl.stays W3) (fun _ h => h) (i := 1) rfl (by kernel_rfl) (by kernel_rfl) (by kernel_rfl) (by kernel_rfl) (by kernel_rfl) (fun _ _ _ h => h) (Gives.value (by rfl) ?yT7x1) ?rT7x1
                          case yT7x1 => (intro w' hSw; go_simp; try with_reducible rfl)
                          (try simp only [Act.put, List.getElem_toArray, List.getElem_cons_zero, List.getElem_cons_succ, List.setIfInBounds_toArray, List.set_cons_zero, List.set_cons_succ])
                          refine wpDyn_take undef (Bl.stays W3) (fun _ h => h) (i := 2) rfl (by kernel_rfl) (by kernel_rfl) (by kernel_rfl) (by kernel_rfl) (by kernel_rfl) (fun _ _ _ h => h) (Gives.not (by rfl)) ?rT7x2
                          (try simp only [Act.put, List.getElem_toArray, List.getElem_cons_zero, List.getElem_cons_succ, List.setIfInBounds_toArray, List.set_cons_zero, List.set_cons_succ])
                          refine wpDyn_take undef (Bl.stays W3) (fun _ h => h) (i := 3) rfl (by kernel_rfl) (by kernel_rfl) (by kernel_rfl) (by kernel_rfl) (by kernel_rfl) (fun _ _ _ h => h) (Gives.not (by rfl)) ?rT7x3
                          (try simp only [Act.put, List.getElem_toArray, List.getElem_cons_zero, List.getElem_cons_succ, List.setIfInBounds_toArray, List.set_cons_zero, List.set_cons_succ])
                          refine wpDyn_take undef (Bl.stays W3) (fun _ h => h) (i := 4) rfl (by kernel_rfl) (by kernel_rfl) (by kernel_rfl) (by kernel_rfl) (by kernel_rfl) (fun _ _ _ h => h) (Gives.not (by rfl)) ?rT7x4
                          (try simp only [Act.put, List.getElem_toArray, List.getElem_cons_zero, List.getElem_cons_succ, List.setIfInBounds_toArray, List.set_cons_zero, List.set_cons_succ])
                          refine wpDyn_take undef (Bl.stays W3) (fun _ h => h) (i := 5) rfl (by kernel_rfl) (by kernel_rfl) (by kernel_rfl) (by kernel_rfl) (by kernel_rfl) (fun _ _ _ h => h) (Gives.not (by rfl)) ?rT7x5
                          (try simp only [Act.put, List.getElem_toArray, List.getElem_cons_zero, List.getElem_cons_succ, List.setIfInBounds_toArray, List.set_cons_zero, List.set_cons_succ])
                          refine wpDyn_take undef (Bl.stays W3) (fun _ h => h) (i := 6) rfl (by kernel_rfl) (by kernel_rfl) (by kernel_rfl) (by kernel_rfl) (by kernel_rfl) (fun _ _ _ h => h) (Gives.not (by rfl)) ?rT7x6
                          (try simp only [Act.put, List.getElem_toArray, List.getElem_cons_zero, List.getElem_cons_succ, List.setIfInBounds_toArray, List.set_cons_zero, List.set_cons_succ])
                          refine wpDyn_take undef (Bl.stays W3) (fun _ h => h) (i := 7) rfl (by kernel_rfl) (by kernel_rfl) (by kernel_rfl) (by kernel_rfl) (by kernel_rfl) (fun _ _ _ h => h) (Gives.not (by rfl)) ?rT7x7
                          (try simp only [Act.put, List.getElem_toArray, List.getElem_cons_zero, List.getElem_cons_succ, List.setIfInBounds_toArray, List.set_cons_zero, List.set_cons_succ])
                          refine wpDyn_take undef (Bl.stays W3) (fun _ h => h) (i := 8) rfl (by kernel_rfl) (by kernel_rfl) (by kernel_rfl) (by kernel_rfl) (by kernel_rfl) (fun _ _ _ h => h) (Gives.not (by rfl)) ?rT7x8
                          (try simp only [Act.put, List.getElem_toArray, List.getElem_cons_zero, List.getElem_cons_succ, List.setIfInBounds_toArray, List.set_cons_zero, List.set_cons_succ])
                          refine wpDyn_take undef (Bl.stays W3) (fun _ h => h) (i := 9) rfl (by kernel_rfl) (by kernel_rfl) (by kernel_rfl) (by kernel_rfl) (by kernel_rfl) (fun _ _ _ h => h) (Gives.not (by rfl)) ?rT7x9
                          (try simp only [Act.put, List.getElem_toArray, List.getElem_cons_zero, List.getElem_cons_succ, List.setIfInBounds_toArray, List.set_cons_zero, List.set_cons_succ])
                          refine wpDyn_take undef (Bl.stays W3) (fun _ h => h) (i := 10) rfl (by kernel_rfl) (by kernel_rfl) (by kernel_rfl) (by kernel_rfl) (by kernel_rfl) (fun _ _ _ h => h) (Gives.not (by rfl)) ?rT7x10
                          (try simp only [Act.put, List.getElem_toArray, List.getElem_cons_zero, List.getElem_cons_succ, List.setIfInBounds_toArray, List.set_cons_zero, List.set_cons_succ])
                          refine wpDyn_take undef (Bl.stays W3) (fun _ h => h) (i := 11) rfl (by kernel_rfl) (by kernel_rfl) (by kernel_rfl) (by kernel_rfl) (by kernel_rfl) (fun _ _ _ h => h) (Gives.not (by rfl)) ?rT7x11
                          (try simp only [Act.put, List.getElem_toArray, List.getElem_cons_zero, List.getElem_cons_succ, List.setIfInBounds_toArray, List.set_cons_zero, List.set_cons_succ])
                          refine wpDyn_take undef (Bl.stays W3) (fun _ h => h) (i := 12) rfl (by kernel_rfl) (by kernel_rfl) (by kernel_rfl) (by kernel_rfl) (by kernel_rfl) (fun _ _ _ h => h) (Gives.not (by rfl)) ?rT7x12
                          (try simp only [Act.put, List.getElem_toArray, List.getElem_cons_zero, List.getElem_cons_succ, List.setIfInBounds_toArray, List.set_cons_zero, List.set_cons_succ])
                          refine wpDyn_take undef (Bl.stays W3) (fun _ h => h) (i := 13) rfl (by kernel_rfl) (by kernel_rfl) (by kernel_rfl) (by kernel_rfl) (by kernel_rfl) (fun _ _ _ h => h) (Gives.not (by rfl)) ?rT7x13
                          (try simp only [Act.put, List.getElem_toArray, List.getElem_cons_zero, List.getElem_cons_succ, List.setIfInBounds_toArray, List.set_cons_zero, List.set_cons_succ])
                          refine wpDyn_take undef (Bl.stays W3) (fun _ h => h) (i := 14) rfl (by kernel_rfl) (by kernel_rfl) (by kernel_rfl) (by kernel_rfl) (by kernel_rfl) (fun _ _ _ h => h) (Gives.not (by rfl)) ?rT7x14
                          (try simp only [Act.put, List.getElem_toArray, List.getElem_cons_zero, List.getElem_cons_succ, List.setIfInBounds_toArray, List.set_cons_zero, List.set_cons_succ])
                          refine wpDyn_take undef (Bl.stays W3) (fun _ h => h) (i := 15) rfl (by kernel_rfl) (by kernel_rfl) (by kernel_rfl) (by kernel_rfl) (by kernel_rfl) (fun _ _ _ h => h) (Gives.not (by rfl)) ?rT7x15
                          (try simp only [Act.put, List.getElem_toArray, List.getElem_cons_zero, List.getElem_cons_succ, List.setIfInBounds_toArray, List.set_cons_zero, List.set_cons_succ])
                          refine wpDyn_take undef (Bl.stays W3) (fun _ h => h) (i := 16) rfl (by kernel_rfl) (by kernel_rfl) (by kernel_rfl) (by kernel_rfl) (by kernel_rfl) (fun _ _ _ h => h) (Gives.not (by rfl)) ?rT7x16
                          (try simp only [Act.put, List.getElem_toArray, List.getElem_cons_zero, List.getElem_cons_succ, List.setIfInBounds_toArray, List.set_cons_zero, List.set_cons_succ])
                          refine wpDyn_take undef (Bl.stays W3) (fun _ h => h) (i := 17) rfl (by kernel_rfl) (by kernel_rfl) (by kernel_rfl) (by kernel_rfl) (by kernel_rfl) (fun _ _ _ h => h) (Gives.not (by rfl)) ?rT7x17
                          (try simp only [Act.put, List.getElem_toArray, List.getElem_cons_zero, List.getElem_cons_succ, List.setIfInBounds_toArray, List.set_cons_zero, List.set_cons_succ])
                          refine wpDyn_take undef (Bl.stays W3) (fun _ h => h) (i := 18) rfl (by kernel_rfl) (by kernel_rfl) (by kernel_rfl) (by kernel_rfl) (by kernel_rfl) (fun _ _ _ h => h) (Gives.not (by rfl)) ?rT7x18
                          (try simp only [Act.put, List.getElem_toArray, List.getElem_cons_zero, List.getElem_cons_succ, List.setIfInBounds_toArray, List.set_cons_zero, List.set_cons_succ])
                          refine wpDyn_take undef (Bl.stays W3) (fun _ h => h) (i := 19) rfl (by kernel_rfl) (by kernel_rfl) (by kernel_rfl) (by kernel_rfl) (by kernel_rfl) (fun _ _ _ h => h) (Gives.not (by rfl)) ?rT7x19
                          (try simp only [Act.put, List.getElem_toArray, List.getElem_cons_zero, List.getElem_cons_succ, List.setIfInBounds_toArray, List.set_cons_zero, List.set_cons_succ])
                          refine wpDyn_take undef (Bl.stays W3) (fun _ h => h) (i := 20) rfl (by kernel_rfl) (by kernel_rfl) (by kernel_rfl) (by kernel_rfl) (by kernel_rfl) (fun _ _ _ h => h) (Gives.not (by rfl)) ?rT7x20
                          (try simp only [Act.put, List.getElem_toArray, List.getElem_cons_zero, List.getElem_cons_succ, List.setIfInBounds_toArray, List.set_cons_zero, List.set_cons_succ])
                          refine wpDyn_take undef (Bl.stays W3) (fun _ h => h) (i := 21) rfl (by kernel_rfl) (by kernel_rfl) (by kernel_rfl) (by kernel_rfl) (by kernel_rfl) (fun _ _ _ h => h) (Gives.not (by rfl)) ?rT7x21
                          (try simp only [Act.put, List.getElem_toArray, List.getElem_cons_zero, List.getElem_cons_succ, List.setIfInBounds_toArray, List.set_cons_zero, List.set_cons_succ])
                          refine wpDyn_take undef (Bl.stays W3) (fun _ h => h) (i := 22) rfl (by kernel_rfl) (by kernel_rfl) (by kernel_rfl) (by kernel_rfl) (by kernel_rfl) (fun _ _ _ h => h) (Gives.not (by rfl)) ?rT7x22
                          (try simp only [Act.put, List.getElem_toArray, List.getElem_cons_zero, List.getElem_cons_succ, List.setIfInBounds_toArray, List.set_cons_zero, List.set_cons_succ])
                          refine wpDyn_take undef (Bl.stays W3) (fun _ h => h) (i := 23) rfl (by kernel_rfl) (by kernel_rfl) (by kernel_rfl) (by kernel_rfl) (by kernel_rfl) (fun _ _ _ h => h) (Gives.not (by rfl)) ?rT7x23
                          (try simp only [Act.put, List.getElem_toArray, List.getElem_cons_zero, List.getElem_cons_succ, List.setIfInBounds_toArray, List.set_cons_zero, List.set_cons_succ])
                          refine wpDyn_take undef (Bl.stays W3) (fun _ h => h) (i := 24) rfl (by kernel_rfl) (by kernel_rfl) (by kernel_rfl) (by kernel_rfl) (by kernel_rfl) (fun _ _ _ h => h) (Gives.not (by rfl)) ?rT7x24
                          (try simp only [Act.put, List.getElem_toArray, List.getElem_cons_zero, List.getElem_cons_succ, List.setIfInBounds_toArray, List.set_cons_zero, List.set_cons_succ])
                          refine wpDyn_take ?vT7x25 (Bl.stays W3) (fun _ h => h) (i := 25) rfl (by kernel_rfl) (by kernel_rfl) (by kernel_rfl) (by kernel_rfl) (by kernel_rfl) (fun _ _ _ h => h) (Gives.value (by rfl) ?yT7x25) ?rT7x25
                          case yT7x25 => (intro w' hSw; go_simp; try with_reducible rfl)
                          (try simp only [Act.put, List.getElem_toArray, List.getElem_cons_zero, List.getElem_cons_succ, List.setIfInBounds_toArray, List.set_cons_zero, List.set_cons_succ])
                          refine wpDyn_take ?vT7x26 (Bl.stays W3) (fun _ h => h) (i := 26) rfl (by kernel_rfl) (by kernel_rfl) (by kernel_rfl) (by kernel_rfl) (by kernel_rfl) (fun _ _ _ h => h) (Gives.value (by rfl) ?yT7x26) ?rT7x26
                          case yT7x26 => (intro w' hSw; go_simp; try with_reducible rfl)
                          (try simp only [Act.put, List.getElem_toArray, List.getElem_cons_zero, List.getElem_cons_succ, List.setIfInBounds_toArray, List.set_cons_zero, List.set_cons_succ])
                          refine wpDyn_ready (rs := [27]) (by kernel_rfl) (by simp) (AllDyn.cons rfl (fun V hV K hK => ?_) AllDyn.nil)
                          rw [if_pos (by rfl)]
                          have hC := awake_any V
                          refine wp_enterX 8 #[] (by first | (go_simp; done) | (go_simp; rfl)) (fun v V' => v = .bool true ∧ Below V.heap.size V V') (hC.mono fun e V' ⟨h1, h2⟩ => ⟨_, h1, rfl, h2⟩) ?_
                          rintro v V1 ⟨rfl, hb⟩
                          refine hK.out (Bl W3) _ _ (Bl.stays W3) (fun _ _ h => h) (Bl.stays W3 _ _ hV hb) ?_
                          clear hK K hV hC hb
                          (try simp only [Act.put, List.getElem_toArray, List.getElem_cons_zero, List.getElem_cons_succ, List.setIfInBounds_toArray, List.set_cons_zero, List.set_cons_succ])
                          refine wpDyn_take ?vT7x28 (Bl.stays W3) (fun _ h => h) (i := 28) rfl (by kernel_rfl) (by kernel_rfl) (by kernel_rfl) (by kernel_rfl) (by kernel_rfl) (fun _ _ _ h => h) (Gives.value (by rfl) ?yT7x28) ?rT7x28
                          case yT7x28 => (intro w' hSw; go_simp; try with_reducible rfl)
                          (try simp only [Act.put, List.getElem_toArray, List.getElem_cons_zero, List.getElem_cons_succ, List.setIfInBounds_toArray, List.set_cons_zero, List.set_cons_succ])
                          refine wpDyn_take ?vT7x29 (Bl.stays W3) (fun _ h => h) (i := 29) rfl (by kernel_rfl) (by kernel_rfl) (by kernel_rfl) (by kernel_rfl) (by kernel_rfl) (fun _ _ _ h => h) (Gives.value (by rfl) ?yT7x29) ?rT7x29
                          case yT7x29 => (intro w' hSw; go_simp; try with_reducible rfl)
                          (try simp only [Act.put, List.getElem_toArray, List.getElem_cons_zero, List.getElem_cons_succ, List.setIfInBounds_toArray, List.set_cons_zero, List.set_cons_succ])
                          refine wpDyn_done (by kernel_rfl) (fun W4 hW4 => ?_) _
                          have HB99 : Hid (Below H w W4) := HB3.out.trans ((HB11.out.trans ((HB34.out.trans ((Bl.out' hW4).mono HB34.out.size)).mono HL11.out)).mono HHL.out)
                          clear hW4
                          go_wp2_with fail
                          go_ret
                          exact ⟨rfl, by have h := HB99.out; rw [HH.out] at h; exact h⟩
                        | false =>
                          have hS8 : Bl w11 w11.drew := (Below.refl _ _).drew
                          refine wp_region_dyn [0, 1, 2, 3, 4, 5, 6, 7, 8, 9, 10, 11, 12, 13, 14, 15, 16, 17, 19, 20] (Bl w11) (Bl w11) (by kernel_rfl) hS8 ?_
                          clear hS8
                          refine wpDyn_take ?vT8x0 (Bl.stays w11) (fun _ h => h) (i := 0) rfl (by kernel_rfl) (by kernel_rfl) (by kernel_rfl) (by kernel_rfl) (by kernel_rfl) (fun _ _ _ h => h) (Gives.value (by rfl) ?yT8x0) ?rT8x0
                          case yT8x0 => (intro w' hSw; go_simp; try with_reducible rfl)
                          (try simp only [Act.put, List.getElem_toArray, List.getElem_cons_zero, List.getElem_cons_succ, List.setIfInBounds_toArray, List.set_cons_zero, List.set_cons_succ])
                          refine wpDyn_take ?vT8x1 (Bl.stays w11) (fun _ h => h) (i := 1) rfl (by kernel_rfl) (by kernel_rfl) (by kernel_rfl) (by kernel_rfl) (by kernel_rfl) (fun _ _ _ h => h) (Gives.value (by rfl) ?yT8x1) ?rT8x1
                          case yT8x1 => (intro w' hSw; go_simp; try with_reducible rfl)
                          (try simp only [Act.put, List.getElem_toArray, List.getElem_cons_zero, List.getElem_cons_succ, List.setIfInBounds_toArray, List.set_cons_zero, List.set_cons_succ])
                          refine wpDyn_take ?vT8x2 (Bl.stays w11) (fun _ h => h) (i := 2) rfl (by kernel_rfl) (by kernel_rfl) (by kernel_rfl) (by kernel_rfl) (by kernel_rfl) (fun _ _ _ h => h) (Gives.value (by rfl) ?yT8x2) ?rT8x2
                          case yT8x2 => (intro w' hSw; go_simp; try with_reducible rfl)
                          (try simp only [Act.put, List.getElem_toArray, List.getElem_cons_zero, List.getElem_cons_succ, List.setIfInBounds_toArray, List.set_cons_zero, List.set_cons_succ])
                          refine wpDyn_take ?vT8x3 (Bl.stays w11) (fun _ h => h) (i := 3) rfl (by kernel_rfl) (by kernel_rfl) (by kernel_rfl) (by kernel_rfl) (by kernel_rfl) (fun _ _ _ h => h) (Gives.value (by rfl) ?yT8x3) ?rT8x3
                          case yT8x3 => (intro w' hSw; go_simp; try with_reducible rfl)
                          (try simp only [Act.put, List.getElem_toArray, List.getElem_cons_zero, List.getElem_cons_succ, List.setIfInBounds_toArray, List.set_cons_zero, List.set_cons_succ])
                          refine wpDyn_take ?vT8x4 (Bl.stays w11) (fun _ h => h) (i := 4) rfl (by kernel_rfl) (by kernel_rfl) (by kernel_rfl) (by kernel_rfl) (by kernel_rfl) (fun _ _ _ h => h) (Gives.value (by rfl) ?yT8x4) ?rT8x4
                          case yT8x4 => (intro w' hSw; have hcl := cell_below (Bl.out' hSw) HCb.out; clear hSw; go_simp; try with_reducible rfl)
                          (try simp only [Act.put, List.getElem_toArray, List.getElem_cons_zero, List.getElem_cons_succ, List.setIfInBounds_toArray, List.set_cons_zero, List.set_cons_succ])
                          refine wpDyn_take ?vT8x5 (Bl.stays w11) (fun _ h => h) (i := 5) rfl (by kernel_rfl) (by kernel_rfl) (by kernel_rfl) (by kernel_rfl) (by kernel_rfl) (fun _ _ _ h => h) (Gives.value (by rfl) ?yT8x5) ?rT8x5
                          case yT8x5 => (intro w' hSw; go_simp; try with_reducible rfl)
                          (try simp only [Act.put, List.getElem_toArray, List.getElem_cons_zero, List.getElem_cons_succ, List.setIfInBounds_toArray, List.set_cons_zero, List.set_cons_succ])
                          refine wpDyn_take ?vT8x6 (Bl.stays w11) (fun _ h => h) (i := 6) rfl (by kernel_rfl) (by kernel_rfl) (by kernel_rfl) (by kernel_rfl) (by kernel_rfl) (fun _ _ _ h => h) (Gives.value (by rfl) ?yT8x6) ?rT8x6
                          case yT8x6 => (intro w' hSw; go_simp; try with_reducible rfl)
                          (try simp only [Act.put, List.getElem_toArray, List.getElem_cons_zero, List.getElem_cons_succ, List.setIfInBounds_toArray, List.set_cons_zero, List.set_cons_succ])
                          refine wpDyn_take (.pointer (some ⟨bb, ob + (nk + 1), none⟩)) (Bl.stays w11) (fun _ h => h) (i := 7) rfl (by kernel_rfl) (by kernel_rfl) (by kernel_rfl) (by kernel_rfl) (by kernel_rfl) (fun _ _ _ h => h) (Gives.value (by rfl) ?yT8x7) ?rT8x7
                          case yT8x7 => (intro w' hSw; go_simp; try (intro hx; exfalso; omega))
                          (try simp only [Act.put, List.getElem_toArray, List.getElem_cons_zero, List.getElem_cons_succ, List.setIfInBounds_toArray, List.set_cons_zero, List.set_cons_succ])
                          refine wpDyn_take ?vT8x8 (Bl.stays w11) (fun _ h => h) (i := 8) rfl (by kernel_rfl) (by kernel_rfl) (by kernel_rfl) (by kernel_rfl) (by kernel_rfl) (fun _ _ _ h => h) (Gives.value (by rfl) ?yT8x8) ?rT8x8
                          case yT8x8 => (intro w' hSw; have hcl := cell_below (Bl.out' hSw) HBx.out; clear hSw; go_simp; try with_reducible rfl)
                          (try simp only [Act.put, List.getElem_toArray, List.getElem_cons_zero, List.getElem_cons_succ, List.setIfInBounds_toArray, List.set_cons_zero, List.set_cons_succ])
                          refine wpDyn_take ?vT8x9 (Bl.stays w11) (fun _ h => h) (i := 9) rfl (by kernel_rfl) (by kernel_rfl) (by kernel_rfl) (by kernel_rfl) (by kernel_rfl) (fun _ _ _ h => h) (Gives.value (by rfl) ?yT8x9) ?rT8x9
                          case yT8x9 => (intro w' hSw; go_simp; try with_reducible rfl)
                          (try simp only [Act.put, List.getElem_toArray, List.getElem_cons_zero, List.getElem_cons_succ, List.setIfInBounds_toArray, List.set_cons_zero, List.set_cons_succ])
                          refine wpDyn_take ?vT8x10 (Bl.stays w11) (fun _ h => h) (i := 10) rfl (by kernel_rfl) (by kernel_rfl) (by kernel_rfl) (by kernel_rfl) (by kernel_rfl) (fun _ _ _ h => h) (Gives.value (by rfl) ?yT8x10) ?rT8x10
                          case yT8x10 => (intro w' hSw; go_simp; try with_reducible rfl)
                          (try simp only [Act.put, List.getElem_toArray, List.getElem_cons_zero, List.getElem_cons_succ, List.setIfInBounds_toArray, List.set_cons_zero, List.set_cons_succ])
                          refine wpDyn_take ?vT8x11 (Bl.stays w11) (fun _ h => h) (i := 11) rfl (by kernel_rfl) (by kernel_rfl) (by kernel_rfl) (by kernel_rfl) (by kernel_rfl) (fun _ _ _ h => h) (Gives.value (by rfl) ?yT8x11) ?rT8x11
                          case yT8x11 => (intro w' hSw; go_simp; try with_reducible rfl)
                          (try simp only [Act.put, List.getElem_toArray, List.getElem_cons_zero, List.getElem_cons_succ, List.setIfInBounds_toArray, List.set_cons_zero, List.set_cons_succ])
                          refine wpDyn_take ?vT8x12 (Bl.stays w11) (fun _ h => h) (i := 12) rfl (by kernel_rfl) (by kernel_rfl) (by kernel_rfl) (by kernel_rfl) (by kernel_rfl) (fun _ _ _ h => h) (Gives.value (by rfl) ?yT8x12) ?rT8x12
                          case yT8x12 => (intro w' hSw; go_simp; try with_reducible rfl)
                          (try simp only [Act.put, List.getElem_toArray, List.getElem_cons_zero, List.getElem_cons_succ, List.setIfInBounds_toArray, List.set_cons_zero, List.set_cons_succ])
                          refine wpDyn_take ?vT8x13 (Bl.stays w11) (fun _ h => h) (i := 13) rfl (by kernel_rfl) (by kernel_rfl) (by kernel_rfl) (by kernel_rfl) (by kernel_rfl) (fun _ _ _ h => h) (Gives.value (by rfl) ?yT8x13) ?rT8x13
                          case yT8x13 => (intro w' hSw; have hcl := cell_below (Bl.out' hSw) HCl.out; clear hSw; go_simp; try with_reducible rfl)
                          (try simp only [Act.put, List.getElem_toArray, List.getElem_cons_zero, List.getElem_cons_succ, List.setIfInBounds_toArray, List.set_cons_zero, List.set_cons_succ])
                          refine wpDyn_take ?vT8x14 (Bl.stays w11) (fun _ h => h) (i := 14) rfl (by kernel_rfl) (by kernel_rfl) (by kernel_rfl) (by kernel_rfl) (by kernel_rfl) (fun _ _ _ h => h) (Gives.value (by rfl) ?yT8x14) ?rT8x14
                          case yT8x14 => (intro w' hSw; go_simp; try with_reducible rfl)
                          (try simp only [Act.put, List.getElem_toArray, List.getElem_cons_zero, List.getElem_cons_succ, List.setIfInBounds_toArray, List.set_cons_zero, List.set_cons_succ])
                          refine wpDyn_take ?vT8x15 (Bl.stays w11) (fun _ h => h) (i := 15) rfl (by kernel_rfl) (by kernel_rfl) (by kernel_rfl) (by kernel_rfl) (by kernel_rfl) (fun _ _ _ h => h) (Gives.value (by rfl) ?yT8x15) ?rT8x15
                          case yT8x15 => (intro w' hSw; go_simp; try with_reducible rfl)
                          (try simp only [Act.put, List.getElem_toArray, List.getElem_cons_zero, List.getElem_cons_succ, List.setIfInBounds_toArray, List.set_cons_zero, List.set_cons_succ])
                          refine wpDyn_take (.pointer (some ⟨br, or_ + (nk + 1), none⟩)) (Bl.stays w11) (fun _ h => h) (i := 16) rfl (by kernel_rfl) (by kernel_rfl) (by kernel_rfl) (by kernel_rfl) (by kernel_rfl) (fun _ _ _ h => h) (Gives.value (by rfl) ?yT8x16) ?rT8x16
                          case yT8x16 => (intro w' hSw; go_simp; try (intro hx; exfalso; omega))
                          (try simp only [Act.put, List.getElem_toArray, List.getElem_cons_zero, List.getElem_cons_succ, List.setIfInBounds_toArray, List.set_cons_zero, List.set_cons_succ])
                          refine wpDyn_take ?vT8x17 (Bl.stays w11) (fun _ h => h) (i := 17) rfl (by kernel_rfl) (by kernel_rfl) (by kernel_rfl) (by kernel_rfl) (by kernel_rfl) (fun _ _ _ h => h) (Gives.value (by rfl) ?yT8x17) ?rT8x17
                          case yT8x17 => (intro w' hSw; have hcl := cell_below (Bl.out' hSw) HRr1.out; clear hSw; go_simp; try with_reducible rfl)
                          (try simp only [Act.put, List.getElem_toArray, List.getElem_cons_zero, List.getElem_cons_succ, List.setIfInBounds_toArray, List.set_cons_zero, List.set_cons_succ])
                          refine wpDyn_ready (rs := [18]) (by kernel_rfl) (by simp) (AllDyn.cons rfl (fun V hV K hK => ?_) AllDyn.nil)
                          rw [if_pos (by rfl)]
                          have hC := eqStr_any pz p9 iz cq x.l.length c9 (txb (tt.r.recs.take iz)) (txb x.l) V (HRV.out V hV) (HLV.out V hV) (by have := HRF.out; have := HIJ.out; omega) (by have := HXL.out; omega)
                          rw [← Hbq.out] at hC
                          refine wp_enterX 26 #[.slice pz iz cq, .slice p9 x.l.length c9] (by first | (go_simp; done) | (go_simp; rfl)) (fun v V' => v = .bool false ∧ Below V.heap.size V V') (hC.mono fun e V' ⟨h1, h2⟩ => ⟨_, h1, rfl, h2⟩) ?_
                          rintro v V1 ⟨rfl, hb⟩
                          refine hK.out (Bl w11) _ _ (Bl.stays w11) (fun _ _ h => h) (Bl.stays w11 _ _ hV hb) ?_
                          clear hK K hV hC hb
                          (try simp only [Act.put, List.getElem_toArray, List.getElem_cons_zero, List.getElem_cons_succ, List.setIfInBounds_toArray, List.set_cons_zero, List.set_cons_succ])
                          refine wpDyn_take ?vT8x19 (Bl.stays w11) (fun _ h => h) (i := 19) rfl (by kernel_rfl) (by kernel_rfl) (by kernel_rfl) (by kernel_rfl) (by kernel_rfl) (fun _ _ _ h => h) (Gives.value (by rfl) ?yT8x19) ?rT8x19
                          case yT8x19 => (intro w' hSw; go_simp; try with_reducible rfl)
                          (try simp only [Act.put, List.getElem_toArray, List.getElem_cons_zero, List.getElem_cons_succ, List.setIfInBounds_toArray, List.set_cons_zero, List.set_cons_succ])
                          refine wpDyn_take ?vT8x20 (Bl.stays w11) (fun _ h => h) (i := 20) rfl (by kernel_rfl) (by kernel_rfl) (by kernel_rfl) (by kernel_rfl) (by kernel_rfl) (fun _ _ _ h => h) (Gives.value (by rfl) ?yT8x20) ?rT8x20
                          case yT8x20 => (intro w' hSw; go_simp; try with_reducible rfl)
                          (try simp only [Act.put, List.getElem_toArray, List.getElem_cons_zero, List.getElem_cons_succ, List.setIfInBounds_toArray, List.set_cons_zero, List.set_cons_succ])
                          refine wpDyn_done (by kernel_rfl) (fun W3 hW3 => ?_) _
                          have HB34 : Hid (Below w11.heap.size w11 W3) := Bl.out' hW3
                          have HC0b : Hid (W3.cell? ⟨bx, 2, none⟩ = some (.string sB)) := cell_below HB34.out HCb.out
                          have HC0l : Hid (W3.cell? ⟨bx, 3, none⟩ = some (.slice pz iz cq)) := cell_below HB34.out HCl.out
                          have HB0b : Hid (W3.cell? ⟨bb, ob + nk, none⟩ = some (.string (strOfNums tt.r.base))) := cell_below HB34.out HBb0.out
                          have HR0r : Hid (W3.cell? ⟨br, or_ + nk, none⟩ = some (.slice pl tt.r.recs.length cl)) := cell_below HB34.out HRr0.out
                          clear hW3
                          go_wp2_with fail
                          have HB0x := (show Hid (W3.cell? ⟨bb, ob + nk, none⟩ = some (.string sB)) from HB0x.out W3 HB0b.out)
                          have hS8 : Bl W3 W3.drew := (Below.refl _ _).drew
                          refine wp_region_dyn [0, 1, 2, 3, 4, 5, 6, 7, 8, 9, 10, 11, 12, 13, 14, 15, 16, 17, 18, 19, 20, 21, 22, 24, 25, 26, 28, 29] (Bl W3) (Bl W3) (by kernel_rfl) hS8 ?_
                          clear hS8
                          refine wpDyn_take ?vT9x0 (Bl.stays W3) (fun _ h => h) (i := 0) rfl (by kernel_rfl) (by kernel_rfl) (by kernel_rfl) (by kernel_rfl) (by kernel_rfl) (fun _ _ _ h => h) (Gives.value (by rfl) ?yT9x0) ?rT9x0
                          case yT9x0 => (intro w' hSw; go_simp; try with_reducible rfl)
                          (try simp only [Act.put, List.getElem_toArray, List.getElem_cons_zero, List.getElem_cons_succ, List.setIfInBounds_toArray, List.set_cons_zero, List.set_cons_succ])
                          refine wpDyn_take ?vT9x1 (Bl.stays W3) (fun _ h => h) (i := 1) rfl (by kernel_rfl) (by kernel_rfl) (by kernel_rfl) (by kernel_rfl) (by kernel_rfl) (fun _ _ _ h => h) (Gives.value (by rfl) ?yT9x1) ?rT9x1
                          case yT9x1 => (intro w' hSw; go_simp; try with_reducible rfl)
                          (try simp only [Act.put, List.getElem_toArray, List.getElem_cons_zero, List.getElem_cons_succ, List.setIfInBounds_toArray, List.set_cons_zero, List.set_cons_succ])
                          refine wpDyn_take ?vT9x2 (Bl.stays W3) (fun _ h => h) (i := 2) rfl (by kernel_rfl) (by kernel_rfl) (by kernel_rfl) (by kernel_rfl) (by kernel_rfl) (fun _ _ _ h => h) (Gives.value (by rfl) ?yT9x2) ?rT9x2
                          case yT9x2 => (intro w' hSw; go_simp; try with_reducible rfl)
                          (try simp only [Act.put, List.getElem_toArray, List.getElem_cons_zero, List.getElem_cons_succ, List.setIfInBounds_toArray, List.set_cons_zero, List.set_cons_succ])
                          refine wpDyn_take ?vT9x3 (Bl.stays W3) (fun _ h => h) (i := 3) rfl (by kernel_rfl) (by kernel_rfl) (by kernel_rfl) (by kernel_rfl) (by kernel_rfl) (fun _ _ _ h => h) (Gives.value (by rfl) ?yT9x3) ?rT9x3
                          case yT9x3 => (intro w' hSw; go_simp; try with_reducible rfl)
                          (try simp only [Act.put, List.getElem_toArray, List.getElem_cons_zero, List.getElem_cons_succ, List.setIfInBounds_toArray, List.set_cons_zero, List.set_cons_succ])
                          refine wpDyn_take ?vT9x4 (Bl.stays W3) (fun _ h => h) (i := 4) rfl (by kernel_rfl) (by kernel_rfl) (by kernel_rfl) (by kernel_rfl) (by kernel_rfl) (fun _ _ _ h => h) (Gives.value (by rfl) ?yT9x4) ?rT9x4
                          case yT9x4 => (intro w' hSw; go_simp; try with_reducible rfl)
                          (try simp only [Act.put, List.getElem_toArray, List.getElem_cons_zero, List.getElem_cons_succ, List.setIfInBounds_toArray, List.set_cons_zero, List.set_cons_succ])
                          refine wpDyn_take ?vT9x5 (Bl.stays W3) (fun _ h => h) (i := 5) rfl (by kernel_rfl) (by kernel_rfl) (by kernel_rfl) (by kernel_rfl) (by kernel_rfl) (fun _ _ _ h => h) (Gives.value (by rfl) ?yT9x5) ?rT9x5
                          case yT9x5 => (intro w' hSw; go_simp; try with_reducible rfl)
                          (try simp only [Act.put, List.getElem_toArray, List.getElem_cons_zero, List.getElem_cons_succ, List.setIfInBounds_toArray, List.set_cons_zero, List.set_cons_succ])
                          refine wpDyn_take ?vT9x6 (Bl.stays W3) (fun _ h => h) (i := 6) rfl (by kernel_rfl) (by kernel_rfl) (by kernel_rfl) (by kernel_rfl) (by kernel_rfl) (fun _ _ _ h => h) (Gives.value (by rfl) ?yT9x6) ?rT9x6
                          case yT9x6 => (intro w' hSw; have hcl := cell_below (Bl.out' hSw) HC0b.out; clear hSw; go_simp; try with_reducible rfl)
                          (try simp only [Act.put, List.getElem_toArray, List.getElem_cons_zero, List.getElem_cons_succ, List.setIfInBounds_toArray, List.set_cons_zero, List.set_cons_succ])
                          refine wpDyn_take ?vT9x7 (Bl.stays W3) (fun _ h => h) (i := 7) rfl (by kernel_rfl) (by kernel_rfl) (by kernel_rfl) (by kernel_rfl) (by kernel_rfl) (fun _ _ _ h => h) (Gives.value (by rfl) ?yT9x7) ?rT9x7
                          case yT9x7 => (intro w' hSw; go_simp; try with_reducible rfl)
                          (try simp only [Act.put, List.getElem_toArray, List.getElem_cons_zero, List.getElem_cons_succ, List.setIfInBounds_toArray, List.set_cons_zero, List.set_cons_succ])
                          refine wpDyn_take ?vT9x8 (Bl.stays W3) (fun _ h => h) (i := 8) rfl (by kernel_rfl) (by kernel_rfl) (by kernel_rfl) (by kernel_rfl) (by kernel_rfl) (fun _ _ _ h => h) (Gives.value (by rfl) ?yT9x8) ?rT9x8
                          case yT9x8 => (intro w' hSw; go_simp; try with_reducible rfl)
                          (try simp only [Act.put, List.getElem_toArray, List.getElem_cons_zero, List.getElem_cons_succ, List.setIfInBounds_toArray, List.set_cons_zero, List.set_cons_succ])
                          refine wpDyn_take (.int .i64 (nk : Int)) (Bl.stays W3) (fun _ h => h) (i := 9) rfl (by kernel_rfl) (by kernel_rfl) (by kernel_rfl) (by kernel_rfl) (by kernel_rfl) (fun _ _ _ h => h) (Gives.value (by rfl) ?yT9x9) ?rT9x9
                          case yT9x9 => (intro w' hSw; go_simp; try (intro hx; exfalso; omega))
                          (try simp only [Act.put, List.getElem_toArray, List.getElem_cons_zero, List.getElem_cons_succ, List.setIfInBounds_toArray, List.set_cons_zero, List.set_cons_succ])
                          refine wpDyn_take (.pointer (some ⟨bb, ob + nk, none⟩)) (Bl.stays W3) (fun _ h => h) (i := 10) rfl (by kernel_rfl) (by kernel_rfl) (by kernel_rfl) (by kernel_rfl) (by kernel_rfl) (fun _ _ _ h => h) (Gives.value (by rfl) ?yT9x10) ?rT9x10
                          case yT9x10 => (intro w' hSw; go_simp; try (intro hx; exfalso; omega))
                          (try simp only [Act.put, List.getElem_toArray, List.getElem_cons_zero, List.getElem_cons_succ, List.setIfInBounds_toArray, List.set_cons_zero, List.set_cons_succ])
                          refine wpDyn_take ?vT9x11 (Bl.stays W3) (fun _ h => h) (i := 11) rfl (by kernel_rfl) (by kernel_rfl) (by kernel_rfl) (by kernel_rfl) (by kernel_rfl) (fun _ _ _ h => h) (Gives.value (by rfl) ?yT9x11) ?rT9x11
                          case yT9x11 => (intro w' hSw; have hcl := cell_below (Bl.out' hSw) HB0x.out; clear hSw; go_simp; try with_reducible rfl)
                          (try simp only [Act.put, List.getElem_toArray, List.getElem_cons_zero, List.getElem_cons_succ, List.setIfInBounds_toArray, List.set_cons_zero, List.set_cons_succ])
                          refine wpDyn_take ?vT9x12 (Bl.stays W3) (fun _ h => h) (i := 12) rfl (by kernel_rfl) (by kernel_rfl) (by kernel_rfl) (by kernel_rfl) (by kernel_rfl) (fun _ _ _ h => h) (Gives.value (by rfl) ?yT9x12) ?rT9x12
                          case yT9x12 => (intro w' hSw; go_simp; try with_reducible rfl)
                          (try simp only [Act.put, List.getElem_toArray, List.getElem_cons_zero, List.getElem_cons_succ, List.setIfInBounds_toArray, List.set_cons_zero, List.set_cons_succ])
                          refine wpDyn_take ?vT9x13 (Bl.stays W3) (fun _ h => h) (i := 13) rfl (by kernel_rfl) (by kernel_rfl) (by kernel_rfl) (by kernel_rfl) (by kernel_rfl) (fun _ _ _ h => h) (Gives.value (by rfl) ?yT9x13) ?rT9x13
                          case yT9x13 => (intro w' hSw; go_simp; try with_reducible rfl)
                          (try simp only [Act.put, List.getElem_toArray, List.getElem_cons_zero, List.getElem_cons_succ, List.setIfInBounds_toArray, List.set_cons_zero, List.set_cons_succ])
                          refine wpDyn_take ?vT9x14 (Bl.stays W3) (fun _ h => h) (i := 14) rfl (by kernel_rfl) (by kernel_rfl) (by kernel_rfl) (by kernel_rfl) (by kernel_rfl) (fun _ _ _ h => h) (Gives.value (by rfl) ?yT9x14) ?rT9x14
                          case yT9x14 => (intro w' hSw; go_simp; try with_reducible rfl)
                          (try simp only [Act.put, List.getElem_toArray, List.getElem_cons_zero, List.getElem_cons_succ, List.setIfInBounds_toArray, List.set_cons_zero, List.set_cons_succ])
                          refine wpDyn_take ?vT9x15 (Bl.stays W3) (fun _ h => h) (i := 15) rfl (by kernel_rfl) (by kernel_rfl) (by kernel_rfl) (by kernel_rfl) (by kernel_rfl) (fun _ _ _ h => h) (Gives.value (by rfl) ?yT9x15) ?rT9x15
                          case yT9x15 => (intro w' hSw; go_simp; try with_reducible rfl)
                          (try simp only [Act.put, List.getElem_toArray, List.getElem_cons_zero, List.getElem_cons_succ, List.setIfInBounds_toArray, List.set_cons_zero, List.set_cons_succ])
                          refine wpDyn_take ?vT9x16 (Bl.stays W3) (fun _ h => h) (i := 16) rfl (by kernel_rfl) (by kernel_rfl) (by kernel_rfl) (by kernel_rfl) (by kernel_rfl) (fun _ _ _ h => h) (Gives.value (by rfl) ?yT9x16) ?rT9x16
                          case yT9x16 => (intro w' hSw; have hcl := cell_below (Bl.out' hSw) HC0l.out; clear hSw; go_simp; try with_reducible rfl)
                          (try simp only [Act.put, List.getElem_toArray, List.getElem_cons_zero, List.getElem_cons_succ, List.setIfInBounds_toArray, List.set_cons_zero, List.set_cons_succ])
                          refine wpDyn_take ?vT9x17 (Bl.stays W3) (fun _ h => h) (i := 17) rfl (by kernel_rfl) (by kernel_rfl) (by kernel_rfl) (by kernel_rfl) (by kernel_rfl) (fun _ _ _ h => h) (Gives.value (by rfl) ?yT9x17) ?rT9x17
                          case yT9x17 => (intro w' hSw; go_simp; try with_reducible rfl)
                          (try simp only [Act.put, List.getElem_toArray, List.getElem_cons_zero, List.getElem_cons_succ, List.setIfInBounds_toArray, List.set_cons_zero, List.set_cons_succ])
                          refine wpDyn_take ?vT9x18 (Bl.stays W3) (fun _ h => h) (i := 18) rfl (by kernel_rfl) (by kernel_rfl) (by kernel_rfl) (by kernel_rfl) (by kernel_rfl) (fun _ _ _ h => h) (Gives.value (by rfl) ?yT9x18) ?rT9x18
                          case yT9x18 => (intro w' hSw; go_simp; try with_reducible rfl)
                          (try simp only [Act.put, List.getElem_toArray, List.getElem_cons_zero, List.getElem_cons_succ, List.setIfInBounds_toArray, List.set_cons_zero, List.set_cons_succ])
                          refine wpDyn_take (.int .i64 (nk : Int)) (Bl.stays W3) (fun _ h => h) (i := 19) rfl (by kernel_rfl) (by kernel_rfl) (by kernel_rfl) (by kernel_rfl) (by kernel_rfl) (fun _ _ _ h => h) (Gives.value (by rfl) ?yT9x19) ?rT9x19
                          case yT9x19 => (intro w' hSw; go_simp; try (intro hx; exfalso; omega))
                          (try simp only [Act.put, List.getElem_toArray, List.getElem_cons_zero, List.getElem_cons_succ, List.setIfInBounds_toArray, List.set_cons_zero, List.set_cons_succ])
                          refine wpDyn_take (.pointer (some ⟨br, or_ + nk, none⟩)) (Bl.stays W3) (fun _ h => h) (i := 20) rfl (by kernel_rfl) (by kernel_rfl) (by kernel_rfl) (by kernel_rfl) (by kernel_rfl) (fun _ _ _ h => h) (Gives.value (by rfl) ?yT9x20) ?rT9x20
                          case yT9x20 => (intro w' hSw; go_simp; try (intro hx; exfalso; omega))
                          (try simp only [Act.put, List.getElem_toArray, List.getElem_cons_zero, List.getElem_cons_succ, List.setIfInBounds_toArray, List.set_cons_zero, List.set_cons_succ])
                          refine wpDyn_take ?vT9x21 (Bl.stays W3) (fun _ h => h) (i := 21) rfl (by kernel_rfl) (by kernel_rfl) (by kernel_rfl) (by kernel_rfl) (by kernel_rfl) (fun _ _ _ h => h) (Gives.value (by rfl) ?yT9x21) ?rT9x21
                          case yT9x21 => (intro w' hSw; have hcl := cell_below (Bl.out' hSw) HR0r.out; clear hSw; go_simp; try with_reducible rfl)
                          (try simp only [Act.put, List.getElem_toArray, List.getElem_cons_zero, List.getElem_cons_succ, List.setIfInBounds_toArray, List.set_cons_zero, List.set_cons_succ])
                          refine wpDyn_take ?vT9x22 (Bl.stays W3) (fun _ h => h) (i := 22) rfl (by kernel_rfl) (by kernel_rfl) (by kernel_rfl) (by kernel_rfl) (by kernel_rfl) (fun _ _ _ h => h) (Gives.value (by rfl) ?yT9x22) ?rT9x22
                          case yT9x22 => (intro w' hSw; go_simp; try with_reducible rfl)
                          (try simp only [Act.put, List.getElem_toArray, List.getElem_cons_zero, List.getElem_cons_succ, List.setIfInBounds_toArray, List.set_cons_zero, List.set_cons_succ])
                          refine wpDyn_ready (rs := [23]) (by kernel_rfl) (by simp) (AllDyn.cons rfl (fun V hV K hK => ?_) AllDyn.nil)
                          rw [if_pos (by rfl)]
                          have hBV := HB34.out.trans ((Bl.out' hV).mono HB34.out.size)
                          have hC := between_any pz pl iz cq tt.r.recs.length cl kk (txb tt.r.recs) V (by have h := HRV.out V hBV; unfold txb at h ⊢; rw [← List.map_take]; exact h) (HOl.out V hBV) HIJ.out.1 HIJ.out.2 (by have := HRF.out; omega)
                          refine wp_enterX 27 #[.slice pz iz cq, .slice pl tt.r.recs.length cl, .int .i64 kk] (by first | (go_simp; done) | (go_simp; rfl)) (fun v V' => v = .bool true ∧ Below V.heap.size V V') (hC.mono fun e V' ⟨h1, h2⟩ => ⟨_, h1, rfl, h2⟩) ?_
                          rintro v V1 ⟨rfl, hb⟩
                          refine hK.out (Bl W3) _ _ (Bl.stays W3) (fun _ _ h => h) (Bl.stays W3 _ _ hV hb) ?_
                          clear hK K hV hC hb
                          (try simp only [Act.put, List.getElem_toArray, List.getElem_cons_zero, List.getElem_cons_succ, List.setIfInBounds_toArray, List.set_cons_zero, List.set_cons_succ])
                          refine wpDyn_take ?vT9x24 (Bl.stays W3) (fun _ h => h) (i := 24) rfl (by kernel_rfl) (by kernel_rfl) (by kernel_rfl) (by kernel_rfl) (by kernel_rfl) (fun _ _ _ h => h) (Gives.value (by rfl) ?yT9x24) ?rT9x24
                          case yT9x24 => (intro w' hSw; go_simp; try with_reducible rfl)
                          (try simp only [Act.put, List.getElem_toArray, List.getElem_cons_zero, List.getElem_cons_succ, List.setIfInBounds_toArray, List.set_cons_zero, List.set_cons_succ])
                          refine wpDyn_take ?vT9x25 (Bl.stays W3) (fun _ h => h) (i := 25) rfl (by kernel_rfl) (by kernel_rfl) (by kernel_rfl) (by kernel_rfl) (by kernel_rfl) (fun _ _ _ h => h) (Gives.value (by rfl) ?yT9x25) ?rT9x25
                          case yT9x25 => (intro w' hSw; go_simp; try with_reducible rfl)
                          (try simp only [Act.put, List.getElem_toArray, List.getElem_cons_zero, List.getElem_cons_succ, List.setIfInBounds_toArray, List.set_cons_zero, List.set_cons_succ])
                          refine wpDyn_take ?vT9x26 (Bl.stays W3) (fun _ h => h) (i := 26) rfl (by kernel_rfl) (by kernel_rfl) (by kernel_rfl) (by kernel_rfl) (by kernel_rfl) (fun _ _ _ h => h) (Gives.value (by rfl) ?yT9x26) ?rT9x26
                          case yT9x26 => (intro w' hSw; go_simp; try with_reducible rfl)
                          (try simp only [Act.put, List.getElem_toArray, List.getElem_cons_zero, List.getElem_cons_succ, List.setIfInBounds_toArray, List.set_cons_zero, List.set_cons_succ])
                          refine wpDyn_ready (rs := [27]) (by kernel_rfl) (by simp) (AllDyn.cons rfl (fun V hV K hK => ?_) AllDyn.nil)
                          rw [if_pos (by rfl)]
                          have hC := awake_any V
                          refine wp_enterX 8 #[] (by first | (go_simp; done) | (go_simp; rfl)) (fun v V' => v = .bool true ∧ Below V.heap.size V V') (hC.mono fun e V' ⟨h1, h2⟩ => ⟨_, h1, rfl, h2⟩) ?_
                          rintro v V1 ⟨rfl, hb⟩
                          refine hK.out (Bl W3) _ _ (Bl.stays W3) (fun _ _ h => h) (Bl.stays W3 _ _ hV hb) ?_
                          clear hK K hV hC hb
                          (try simp only [Act.put, List.getElem_toArray, List.getElem_cons_zero, List.getElem_cons_succ, List.setIfInBounds_toArray, List.set_cons_zero, List.set_cons_succ])
                          refine wpDyn_take ?vT9x28 (Bl.stays W3) (fun _ h => h) (i := 28) rfl (by kernel_rfl) (by kernel_rfl) (by kernel_rfl) (by kernel_rfl) (by kernel_rfl) (fun _ _ _ h => h) (Gives.value (by rfl) ?yT9x28) ?rT9x28
                          case yT9x28 => (intro w' hSw; go_simp; try with_reducible rfl)
                          (try simp only [Act.put, List.getElem_toArray, List.getElem_cons_zero, List.getElem_cons_succ, List.setIfInBounds_toArray, List.set_cons_zero, List.set_cons_succ])
                          refine wpDyn_take ?vT9x29 (Bl.stays W3) (fun _ h => h) (i := 29) rfl (by kernel_rfl) (by kernel_rfl) (by kernel_rfl) (by kernel_rfl) (by kernel_rfl) (fun _ _ _ h => h) (Gives.value (by rfl) ?yT9x29) ?rT9x29
                          case yT9x29 => (intro w' hSw; go_simp; try with_reducible rfl)
                          (try simp only [Act.put, List.getElem_toArray, List.getElem_cons_zero, List.getElem_cons_succ, List.setIfInBounds_toArray, List.set_cons_zero, List.set_cons_succ])
                          refine wpDyn_done (by kernel_rfl) (fun W4 hW4 => ?_) _
                          have HB99 : Hid (Below H w W4) := HB3.out.trans ((HB11.out.trans ((HB34.out.trans ((Bl.out' hW4).mono HB34.out.size)).mono HL11.out)).mono HHL.out)
                          clear hW4
                          go_wp2_with fail
                          go_ret
                          exact ⟨rfl, by have h := HB99.out; rw [HH.out] at h; exact h⟩
                      · obtain ⟨sX, HsX⟩ : ∃ z, Hid (z = strOfNums x.b) := ⟨_, rfl⟩
                        rw [← HsX.out] at hEq
                        have HBx : Hid (w11.cell? ⟨bb, ob + (nk + 1), none⟩ = some (.string sX)) := by rw [HsX.out]; exact HBb1.out
                        have hq1 : (sB.toList == sX.toList) = false := bytes_ne hEq
                        have hS8 : Bl w11 w11.drew := (Below.refl _ _).drew
                        refine wp_region_dyn [0, 1, 2, 3, 4, 5, 6, 7, 8, 9, 10, 11, 12, 13, 14, 15, 16, 17, 18, 19, 20] (Bl w11) (Bl w11) (by kernel_rfl) hS8 ?_
                        clear hS8
                        refine wpDyn_take ?vT10x0 (Bl.stays w11) (fun _ h => h) (i := 0) rfl (by kernel_rfl) (by kernel_rfl) (by kernel_rfl) (by kernel_rfl) (by kernel_rfl) (fun _ _ _ h => h) (Gives.value (by rfl) ?yT10x0) ?rT10x0
                        case yT10x0 => (intro w' hSw; go_simp; try with_reducible rfl)
                        (try simp only [Act.put, List.getElem_toArray, List.getElem_cons_zero, List.getElem_cons_succ, List.setIfInBounds_toArray, List.set_cons_zero, List.set_cons_succ])
                        refine wpDyn_take ?vT10x1 (Bl.stays w11) (fun _ h => h) (i := 1) rfl (by kernel_rfl) (by kernel_rfl) (by kernel_rfl) (by kernel_rfl) (by kernel_rfl) (fun _ _ _ h => h) (Gives.value (by rfl) ?yT10x1) ?rT10x1
                        case yT10x1 => (intro w' hSw; go_simp; try with_reducible rfl)
                        (try simp only [Act.put, List.getElem_toArray, List.getElem_cons_zero, List.getElem_cons_succ, List.setIfInBounds_toArray, List.set_cons_zero, List.set_cons_succ])
                        refine wpDyn_take ?vT10x2 (Bl.stays w11) (fun _ h => h) (i := 2) rfl (by kernel_rfl) (by kernel_rfl) (by kernel_rfl) (by kernel_rfl) (by kernel_rfl) (fun _ _ _ h => h) (Gives.value (by rfl) ?yT10x2) ?rT10x2
                        case yT10x2 => (intro w' hSw; go_simp; try with_reducible rfl)
                        (try simp only [Act.put, List.getElem_toArray, List.getElem_cons_zero, List.getElem_cons_succ, List.setIfInBounds_toArray, List.set_cons_zero, List.set_cons_succ])
                        refine wpDyn_take ?vT10x3 (Bl.stays w11) (fun _ h => h) (i := 3) rfl (by kernel_rfl) (by kernel_rfl) (by kernel_rfl) (by kernel_rfl) (by kernel_rfl) (fun _ _ _ h => h) (Gives.value (by rfl) ?yT10x3) ?rT10x3
                        case yT10x3 => (intro w' hSw; go_simp; try with_reducible rfl)
                        (try simp only [Act.put, List.getElem_toArray, List.getElem_cons_zero, List.getElem_cons_succ, List.setIfInBounds_toArray, List.set_cons_zero, List.set_cons_succ])
                        refine wpDyn_take ?vT10x4 (Bl.stays w11) (fun _ h => h) (i := 4) rfl (by kernel_rfl) (by kernel_rfl) (by kernel_rfl) (by kernel_rfl) (by kernel_rfl) (fun _ _ _ h => h) (Gives.value (by rfl) ?yT10x4) ?rT10x4
                        case yT10x4 => (intro w' hSw; have hcl := cell_below (Bl.out' hSw) HCb.out; clear hSw; go_simp; try with_reducible rfl)
                        (try simp only [Act.put, List.getElem_toArray, List.getElem_cons_zero, List.getElem_cons_succ, List.setIfInBounds_toArray, List.set_cons_zero, List.set_cons_succ])
                        refine wpDyn_take ?vT10x5 (Bl.stays w11) (fun _ h => h) (i := 5) rfl (by kernel_rfl) (by kernel_rfl) (by kernel_rfl) (by kernel_rfl) (by kernel_rfl) (fun _ _ _ h => h) (Gives.value (by rfl) ?yT10x5) ?rT10x5
                        case yT10x5 => (intro w' hSw; go_simp; try with_reducible rfl)
                        (try simp only [Act.put, List.getElem_toArray, List.getElem_cons_zero, List.getElem_cons_succ, List.setIfInBounds_toArray, List.set_cons_zero, List.set_cons_succ])
                        refine wpDyn_take ?vT10x6 (Bl.stays w11) (fun _ h => h) (i := 6) rfl (by kernel_rfl) (by kernel_rfl) (by kernel_rfl) (by kernel_rfl) (by kernel_rfl) (fun _ _ _ h => h) (Gives.value (by rfl) ?yT10x6) ?rT10x6
                        case yT10x6 => (intro w' hSw; go_simp; try with_reducible rfl)
                        (try simp only [Act.put, List.getElem_toArray, List.getElem_cons_zero, List.getElem_cons_succ, List.setIfInBounds_toArray, List.set_cons_zero, List.set_cons_succ])
                        refine wpDyn_take (.pointer (some ⟨bb, ob + (nk + 1), none⟩)) (Bl.stays w11) (fun _ h => h) (i := 7) rfl (by kernel_rfl) (by kernel_rfl) (by kernel_rfl) (by kernel_rfl) (by kernel_rfl) (fun _ _ _ h => h) (Gives.value (by rfl) ?yT10x7) ?rT10x7
                        case yT10x7 => (intro w' hSw; go_simp; try (intro hx; exfalso; omega))
                        (try simp only [Act.put, List.getElem_toArray, List.getElem_cons_zero, List.getElem_cons_succ, List.setIfInBounds_toArray, List.set_cons_zero, List.set_cons_succ])
                        refine wpDyn_take ?vT10x8 (Bl.stays w11) (fun _ h => h) (i := 8) rfl (by kernel_rfl) (by kernel_rfl) (by kernel_rfl) (by kernel_rfl) (by kernel_rfl) (fun _ _ _ h => h) (Gives.value (by rfl) ?yT10x8) ?rT10x8
                        case yT10x8 => (intro w' hSw; have hcl := cell_below (Bl.out' hSw) HBx.out; clear hSw; go_simp; try with_reducible rfl)
                        (try simp only [Act.put, List.getElem_toArray, List.getElem_cons_zero, List.getElem_cons_succ, List.setIfInBounds_toArray, List.set_cons_zero, List.set_cons_succ])
                        refine wpDyn_take ?vT10x9 (Bl.stays w11) (fun _ h => h) (i := 9) rfl (by kernel_rfl) (by kernel_rfl) (by kernel_rfl) (by kernel_rfl) (by kernel_rfl) (fun _ _ _ h => h) (Gives.value (by rfl) ?yT10x9) ?rT10x9
                        case yT10x9 => (intro w' hSw; go_simp; try with_reducible rfl)
                        (try simp only [Act.put, List.getElem_toArray, List.getElem_cons_zero, List.getElem_cons_succ, List.setIfInBounds_toArray, List.set_cons_zero, List.set_cons_succ])
                        refine wpDyn_take ?vT10x10 (Bl.stays w11) (fun _ h => h) (i := 10) rfl (by kernel_rfl) (by kernel_rfl) (by kernel_rfl) (by kernel_rfl) (by kernel_rfl) (fun _ _ _ h => h) (Gives.value (by rfl) ?yT10x10) ?rT10x10
                        case yT10x10 => (intro w' hSw; go_simp; try with_reducible rfl)
                        (try simp only [Act.put, List.getElem_toArray, List.getElem_cons_zero, List.getElem_cons_succ, List.setIfInBounds_toArray, List.set_cons_zero, List.set_cons_succ])
                        refine wpDyn_take ?vT10x11 (Bl.stays w11) (fun _ h => h) (i := 11) rfl (by kernel_rfl) (by kernel_rfl) (by kernel_rfl) (by kernel_rfl) (by kernel_rfl) (fun _ _ _ h => h) (Gives.value (by rfl) ?yT10x11) ?rT10x11
                        case yT10x11 => (intro w' hSw; go_simp; try with_reducible rfl)
                        (try simp only [Act.put, List.getElem_toArray, List.getElem_cons_zero, List.getElem_cons_succ, List.setIfInBounds_toArray, List.set_cons_zero, List.set_cons_succ])
                        refine wpDyn_take undef (Bl.stays w11) (fun _ h => h) (i := 12) rfl (by kernel_rfl) (by kernel_rfl) (by kernel_rfl) (by kernel_rfl) (by kernel_rfl) (fun _ _ _ h => h) (Gives.not (by rfl)) ?rT10x12
                        (try simp only [Act.put, List.getElem_toArray, List.getElem_cons_zero, List.getElem_cons_succ, List.setIfInBounds_toArray, List.set_cons_zero, List.set_cons_succ])
                        refine wpDyn_take undef (Bl.stays w11) (fun _ h => h) (i := 13) rfl (by kernel_rfl) (by kernel_rfl) (by kernel_rfl) (by kernel_rfl) (by kernel_rfl) (fun _ _ _ h => h) (Gives.not (by rfl)) ?rT10x13
                        (try simp only [Act.put, List.getElem_toArray, List.getElem_cons_zero, List.getElem_cons_succ, List.setIfInBounds_toArray, List.set_cons_zero, List.set_cons_succ])
                        refine wpDyn_take undef (Bl.stays w11) (fun _ h => h) (i := 14) rfl (by kernel_rfl) (by kernel_rfl) (by kernel_rfl) (by kernel_rfl) (by kernel_rfl) (fun _ _ _ h => h) (Gives.not (by rfl)) ?rT10x14
                        (try simp only [Act.put, List.getElem_toArray, List.getElem_cons_zero, List.getElem_cons_succ, List.setIfInBounds_toArray, List.set_cons_zero, List.set_cons_succ])
                        refine wpDyn_take undef (Bl.stays w11) (fun _ h => h) (i := 15) rfl (by kernel_rfl) (by kernel_rfl) (by kernel_rfl) (by kernel_rfl) (by kernel_rfl) (fun _ _ _ h => h) (Gives.not (by rfl)) ?rT10x15
                        (try simp only [Act.put, List.getElem_toArray, List.getElem_cons_zero, List.getElem_cons_succ, List.setIfInBounds_toArray, List.set_cons_zero, List.set_cons_succ])
                        refine wpDyn_take undef (Bl.stays w11) (fun _ h => h) (i := 16) rfl (by kernel_rfl) (by kernel_rfl) (by kernel_rfl) (by kernel_rfl) (by kernel_rfl) (fun _ _ _ h => h) (Gives.not (by rfl)) ?rT10x16
                        (try simp only [Act.put, List.getElem_toArray, List.getElem_cons_zero, List.getElem_cons_succ, List.setIfInBounds_toArray, List.set_cons_zero, List.set_cons_succ])
                        refine wpDyn_take undef (Bl.stays w11) (fun _ h => h) (i := 17) rfl (by kernel_rfl) (by kernel_rfl) (by kernel_rfl) (by kernel_rfl) (by kernel_rfl) (fun _ _ _ h => h) (Gives.not (by rfl)) ?rT10x17
                        (try simp only [Act.put, List.getElem_toArray, List.getElem_cons_zero, List.getElem_cons_succ, List.setIfInBounds_toArray, List.set_cons_zero, List.set_cons_succ])
                        refine wpDyn_take undef (Bl.stays w11) (fun _ h => h) (i := 18) rfl (by kernel_rfl) (by kernel_rfl) (by kernel_rfl) (by kernel_rfl) (by kernel_rfl) (fun _ _ _ h => h) (Gives.not (by rfl)) ?rT10x18
                        (try simp only [Act.put, List.getElem_toArray, List.getElem_cons_zero, List.getElem_cons_succ, List.setIfInBounds_toArray, List.set_cons_zero, List.set_cons_succ])
                        refine wpDyn_take ?vT10x19 (Bl.stays w11) (fun _ h => h) (i := 19) rfl (by kernel_rfl) (by kernel_rfl) (by kernel_rfl) (by kernel_rfl) (by kernel_rfl) (fun _ _ _ h => h) (Gives.value (by rfl) ?yT10x19) ?rT10x19
                        case yT10x19 => (intro w' hSw; go_simp; try with_reducible rfl)
                        (try simp only [Act.put, List.getElem_toArray, List.getElem_cons_zero, List.getElem_cons_succ, List.setIfInBounds_toArray, List.set_cons_zero, List.set_cons_succ])
                        refine wpDyn_take ?vT10x20 (Bl.stays w11) (fun _ h => h) (i := 20) rfl (by kernel_rfl) (by kernel_rfl) (by kernel_rfl) (by kernel_rfl) (by kernel_rfl) (fun _ _ _ h => h) (Gives.value (by rfl) ?yT10x20) ?rT10x20
                        case yT10x20 => (intro w' hSw; go_simp; try with_reducible rfl)
                        (try simp only [Act.put, List.getElem_toArray, List.getElem_cons_zero, List.getElem_cons_succ, List.setIfInBounds_toArray, List.set_cons_zero, List.set_cons_succ])
                        refine wpDyn_done (by kernel_rfl) (fun W3 hW3 => ?_) _
                        have HB34 : Hid (Below w11.heap.size w11 W3) := Bl.out' hW3
                        have HC0b : Hid (W3.cell? ⟨bx, 2, none⟩ = some (.string sB)) := cell_below HB34.out HCb.out
                        have HC0l : Hid (W3.cell? ⟨bx, 3, none⟩ = some (.slice pz iz cq)) := cell_below HB34.out HCl.out
                        have HB0b : Hid (W3.cell? ⟨bb, ob + nk, none⟩ = some (.string (strOfNums tt.r.base))) := cell_below HB34.out HBb0.out
                        have HR0r : Hid (W3.cell? ⟨br, or_ + nk, none⟩ = some (.slice pl tt.r.recs.length cl)) := cell_below HB34.out HRr0.out
                        clear hW3
                        go_wp2_with fail
                        have HB0x := (show Hid (W3.cell? ⟨bb, ob + nk, none⟩ = some (.string sB)) from HB0x.out W3 HB0b.out)
                        have hS8 : Bl W3 W3.drew := (Below.refl _ _).drew
                        refine wp_region_dyn [0, 1, 2, 3, 4, 5, 6, 7, 8, 9, 10, 11, 12, 13, 14, 15, 16, 17, 18, 19, 20, 21, 22, 24, 25, 26, 28, 29] (Bl W3) (Bl W3) (by kernel_rfl) hS8 ?_
                        clear hS8
                        refine wpDyn_take ?vT11x0 (Bl.stays W3) (fun _ h => h) (i := 0) rfl (by kernel_rfl) (by kernel_rfl) (by kernel_rfl) (by kernel_rfl) (by kernel_rfl) (fun _ _ _ h => h) (Gives.value (by rfl) ?yT11x0) ?rT11x0
                        case yT11x0 => (intro w' hSw; go_simp; try with_reducible rfl)
                        (try simp only [Act.put, List.getElem_toArray, List.getElem_cons_zero, List.getElem_cons_succ, List.setIfInBounds_toArray, List.set_cons_zero, List.set_cons_succ])
                        refine wpDyn_take ?vT11x1 (Bl.stays W3) (fun _ h => h) (i := 1) rfl (by kernel_rfl) (by kernel_rfl) (by kernel_rfl) (by kernel_rfl) (by kernel_rfl) (fun _ _ _ h => h) (Gives.value (by rfl) ?yT11x1) ?rT11x1
                        case yT11x1 => (intro w' hSw; go_simp; try with_reducible rfl)
                        (try simp only [Act.put, List.getElem_toArray, List.getElem_cons_zero, List.getElem_cons_succ, List.setIfInBounds_toArray, List.set_cons_zero, List.set_cons_succ])
                        refine wpDyn_take ?vT11x2 (Bl.stays W3) (fun _ h => h) (i := 2) rfl (by kernel_rfl) (by kernel_rfl) (by kernel_rfl) (by kernel_rfl) (by kernel_rfl) (fun _ _ _ h => h) (Gives.value (by rfl) ?yT11x2) ?rT11x2
                        case yT11x2 => (intro w' hSw; go_simp; try with_reducible rfl)
                        (try simp only [Act.put, List.getElem_toArray, List.getElem_cons_zero, List.getElem_cons_succ, List.setIfInBounds_toArray, List.set_cons_zero, List.set_cons_succ])
                        refine wpDyn_take ?vT11x3 (Bl.stays W3) (fun _ h => h) (i := 3) rfl (by kernel_rfl) (by kernel_rfl) (by kernel_rfl) (by kernel_rfl) (by kernel_rfl) (fun _ _ _ h => h) (Gives.value (by rfl) ?yT11x3) ?rT11x3
                        case yT11x3 => (intro w' hSw; go_simp; try with_reducible rfl)
                        (try simp only [Act.put, List.getElem_toArray, List.getElem_cons_zero, List.getElem_cons_succ, List.setIfInBounds_toArray, List.set_cons_zero, List.set_cons_succ])
                        refine wpDyn_take ?vT11x4 (Bl.stays W3) (fun _ h => h) (i := 4) rfl (by kernel_rfl) (by kernel_rfl) (by kernel_rfl) (by kernel_rfl) (by kernel_rfl) (fun _ _ _ h => h) (Gives.value (by rfl) ?yT11x4) ?rT11x4
                        case yT11x4 => (intro w' hSw; go_simp; try with_reducible rfl)
                        (try simp only [Act.put, List.getElem_toArray, List.getElem_cons_zero, List.getElem_cons_succ, List.setIfInBounds_toArray, List.set_cons_zero, List.set_cons_succ])
                        refine wpDyn_take ?vT11x5 (Bl.stays W3) (fun _ h => h) (i := 5) rfl (by kernel_rfl) (by kernel_rfl) (by kernel_rfl) (by kernel_rfl) (by kernel_rfl) (fun _ _ _ h => h) (Gives.value (by rfl) ?yT11x5) ?rT11x5
                        case yT11x5 => (intro w' hSw; go_simp; try with_reducible rfl)
                        (try simp only [Act.put, List.getElem_toArray, List.getElem_cons_zero, List.getElem_cons_succ, List.setIfInBounds_toArray, List.set_cons_zero, List.set_cons_succ])
                        refine wpDyn_take ?vT11x6 (Bl.stays W3) (fun _ h => h) (i := 6) rfl (by kernel_rfl) (by kernel_rfl) (by kernel_rfl) (by kernel_rfl) (by kernel_rfl) (fun _ _ _ h => h) (Gives.value (by rfl) ?yT11x6) ?rT11x6
                        case yT11x6 => (intro w' hSw; have hcl := cell_below (Bl.out' hSw) HC0b.out; clear hSw; go_simp; try with_reducible rfl)
                        (try simp only [Act.put, List.getElem_toArray, List.getElem_cons_zero, List.getElem_cons_succ, List.setIfInBounds_toArray, List.set_cons_zero, List.set_cons_succ])
                        refine wpDyn_take ?vT11x7 (Bl.stays W3) (fun _ h => h) (i := 7) rfl (by kernel_rfl) (by kernel_rfl) (by kernel_rfl) (by kernel_rfl) (by kernel_rfl) (fun _ _ _ h => h) (Gives.value (by rfl) ?yT11x7) ?rT11x7
                        case yT11x7 => (intro w' hSw; go_simp; try with_reducible rfl)
                        (try simp only [Act.put, List.getElem_toArray, List.getElem_cons_zero, List.getElem_cons_succ, List.setIfInBounds_toArray, List.set_cons_zero, List.set_cons_succ])
                        refine wpDyn_take ?vT11x8 (Bl.stays W3) (fun _ h => h) (i := 8) rfl (by kernel_rfl) (by kernel_rfl) (by kernel_rfl) (by kernel_rfl) (by kernel_rfl) (fun _ _ _ h => h) (Gives.value (by rfl) ?yT11x8) ?rT11x8
                        case yT11x8 => (intro w' hSw; go_simp; try with_reducible rfl)
                        (try simp only [Act.put, List.getElem_toArray, List.getElem_cons_zero, List.getElem_cons_succ, List.setIfInBounds_toArray, List.set_cons_zero, List.set_cons_succ])
                        refine wpDyn_take (.int .i64 (nk : Int)) (Bl.stays W3) (fun _ h => h) (i := 9) rfl (by kernel_rfl) (by kernel_rfl) (by kernel_rfl) (by kernel_rfl) (by kernel_rfl) (fun _ _ _ h => h) (Gives.value (by rfl) ?yT11x9) ?rT11x9
                        case yT11x9 => (intro w' hSw; go_simp; try (intro hx; exfalso; omega))
                        (try simp only [Act.put, List.getElem_toArray, List.getElem_cons_zero, List.getElem_cons_succ, List.setIfInBounds_toArray, List.set_cons_zero, List.set_cons_succ])
                        refine wpDyn_take (.pointer (some ⟨bb, ob + nk, none⟩)) (Bl.stays W3) (fun _ h => h) (i := 10) rfl (by kernel_rfl) (by kernel_rfl) (by kernel_rfl) (by kernel_rfl) (by kernel_rfl) (fun _ _ _ h => h) (Gives.value (by rfl) ?yT11x10) ?rT11x10
                        case yT11x10 => (intro w' hSw; go_simp; try (intro hx; exfalso; omega))
                        (try simp only [Act.put, List.getElem_toArray, List.getElem_cons_zero, List.getElem_cons_succ, List.setIfInBounds_toArray, List.set_cons_zero, List.set_cons_succ])
                        refine wpDyn_take ?vT11x11 (Bl.stays W3) (fun _ h => h) (i := 11) rfl (by kernel_rfl) (by kernel_rfl) (by kernel_rfl) (by kernel_rfl) (by kernel_rfl) (fun _ _ _ h => h) (Gives.value (by rfl) ?yT11x11) ?rT11x11
                        case yT11x11 => (intro w' hSw; have hcl := cell_below (Bl.out' hSw) HB0x.out; clear hSw; go_simp; try with_reducible rfl)
                        (try simp only [Act.put, List.getElem_toArray, List.getElem_cons_zero, List.getElem_cons_succ, List.setIfInBounds_toArray, List.set_cons_zero, List.set_cons_succ])
                        refine wpDyn_take ?vT11x12 (Bl.stays W3) (fun _ h => h) (i := 12) rfl (by kernel_rfl) (by kernel_rfl) (by kernel_rfl) (by kernel_rfl) (by kernel_rfl) (fun _ _ _ h => h) (Gives.value (by rfl) ?yT11x12) ?rT11x12
                        case yT11x12 => (intro w' hSw; go_simp; try with_reducible rfl)
                        (try simp only [Act.put, List.getElem_toArray, List.getElem_cons_zero, List.getElem_cons_succ, List.setIfInBounds_toArray, List.set_cons_zero, List.set_cons_succ])
                        refine wpDyn_take ?vT11x13 (Bl.stays W3) (fun _ h => h) (i := 13) rfl (by kernel_rfl) (by kernel_rfl) (by kernel_rfl) (by kernel_rfl) (by kernel_rfl) (fun _ _ _ h => h) (Gives.value (by rfl) ?yT11x13) ?rT11x13
                        case yT11x13 => (intro w' hSw; go_simp; try with_reducible rfl)
                        (try simp only [Act.put, List.getElem_toArray, List.getElem_cons_zero, List.getElem_cons_succ, List.setIfInBounds_toArray, List.set_cons_zero, List.set_cons_succ])
                        refine wpDyn_take ?vT11x14 (Bl.stays W3) (fun _ h => h) (i := 14) rfl (by kernel_rfl) (by kernel_rfl) (by kernel_rfl) (by kernel_rfl) (by kernel_rfl) (fun _ _ _ h => h) (Gives.value (by rfl) ?yT11x14) ?rT11x14
                        case yT11x14 => (intro w' hSw; go_simp; try with_reducible rfl)
                        (try simp only [Act.put, List.getElem_toArray, List.getElem_cons_zero, List.getElem_cons_succ, List.setIfInBounds_toArray, List.set_cons_zero, List.set_cons_succ])
                        refine wpDyn_take ?vT11x15 (Bl.stays W3) (fun _ h => h) (i := 15) rfl (by kernel_rfl) (by kernel_rfl) (by kernel_rfl) (by kernel_rfl) (by kernel_rfl) (fun _ _ _ h => h) (Gives.value (by rfl) ?yT11x15) ?rT11x15
                        case yT11x15 => (intro w' hSw; go_simp; try with_reducible rfl)
                        (try simp only [Act.put, List.getElem_toArray, List.getElem_cons_zero, List.getElem_cons_succ, List.setIfInBounds_toArray, List.set_cons_zero, List.set_cons_succ])
                        refine wpDyn_take ?vT11x16 (Bl.stays W3) (fun _ h => h) (i := 16) rfl (by kernel_rfl) (by kernel_rfl) (by kernel_rfl) (by kernel_rfl) (by kernel_rfl) (fun _ _ _ h => h) (Gives.value (by rfl) ?yT11x16) ?rT11x16
                        case yT11x16 => (intro w' hSw; have hcl := cell_below (Bl.out' hSw) HC0l.out; clear hSw; go_simp; try with_reducible rfl)
                        (try simp only [Act.put, List.getElem_toArray, List.getElem_cons_zero, List.getElem_cons_succ, List.setIfInBounds_toArray, List.set_cons_zero, List.set_cons_succ])
                        refine wpDyn_take ?vT11x17 (Bl.stays W3) (fun _ h => h) (i := 17) rfl (by kernel_rfl) (by kernel_rfl) (by kernel_rfl) (by kernel_rfl) (by kernel_rfl) (fun _ _ _ h => h) (Gives.value (by rfl) ?yT11x17) ?rT11x17
                        case yT11x17 => (intro w' hSw; go_simp; try with_reducible rfl)
                        (try simp only [Act.put, List.getElem_toArray, List.getElem_cons_zero, List.getElem_cons_succ, List.setIfInBounds_toArray, List.set_cons_zero, List.set_cons_succ])
                        refine wpDyn_take ?vT11x18 (Bl.stays W3) (fun _ h => h) (i := 18) rfl (by kernel_rfl) (by kernel_rfl) (by kernel_rfl) (by kernel_rfl) (by kernel_rfl) (fun _ _ _ h => h) (Gives.value (by rfl) ?yT11x18) ?rT11x18
                        case yT11x18 => (intro w' hSw; go_simp; try with_reducible rfl)
                        (try simp only [Act.put, List.getElem_toArray, List.getElem_cons_zero, List.getElem_cons_succ, List.setIfInBounds_toArray, List.set_cons_zero, List.set_cons_succ])
                        refine wpDyn_take (.int .i64 (nk : Int)) (Bl.stays W3) (fun _ h => h) (i := 19) rfl (by kernel_rfl) (by kernel_rfl) (by kernel_rfl) (by kernel_rfl) (by kernel_rfl) (fun _ _ _ h => h) (Gives.value (by rfl) ?yT11x19) ?rT11x19
                        case yT11x19 => (intro w' hSw; go_simp; try (intro hx; exfalso; omega))
                        (try simp only [Act.put, List.getElem_toArray, List.getElem_cons_zero, List.getElem_cons_succ, List.setIfInBounds_toArray, List.set_cons_zero, List.set_cons_succ])
                        refine wpDyn_take (.pointer (some ⟨br, or_ + nk, none⟩)) (Bl.stays W3) (fun _ h => h) (i := 20) rfl (by kernel_rfl) (by kernel_rfl) (by kernel_rfl) (by kernel_rfl) (by kernel_rfl) (fun _ _ _ h => h) (Gives.value (by rfl) ?yT11x20) ?rT11x20
                        case yT11x20 => (intro w' hSw; go_simp; try (intro hx; exfalso; omega))
                        (try simp only [Act.put, List.getElem_toArray, List.getElem_cons_zero, List.getElem_cons_succ, List.setIfInBounds_toArray, List.set_cons_zero, List.set_cons_succ])
                        refine wpDyn_take ?vT11x21 (Bl.stays W3) (fun _ h => h) (i := 21) rfl (by kernel_rfl) (by kernel_rfl) (by kernel_rfl) (by kernel_rfl) (by kernel_rfl) (fun _ _ _ h => h) (Gives.value (by rfl) ?yT11x21) ?rT11x21
                        case yT11x21 => (intro w' hSw; have hcl := cell_below (Bl.out' hSw) HR0r.out; clear hSw; go_simp; try with_reducible rfl)
                        (try simp only [Act.put, List.getElem_toArray, List.getElem_cons_zero, List.getElem_cons_succ, List.setIfInBounds_toArray, List.set_cons_zero, List.set_cons_succ])
                        refine wpDyn_take ?vT11x22 (Bl.stays W3) (fun _ h => h) (i := 22) rfl (by kernel_rfl) (by kernel_rfl) (by kernel_rfl) (by kernel_rfl) (by kernel_rfl) (fun _ _ _ h => h) (Gives.value (by rfl) ?yT11x22) ?rT11x22
                        case yT11x22 => (intro w' hSw; go_simp; try with_reducible rfl)
                        (try simp only [Act.put, List.getElem_toArray, List.getElem_cons_zero, List.getElem_cons_succ, List.setIfInBounds_toArray, List.set_cons_zero, List.set_cons_succ])
                        refine wpDyn_ready (rs := [23]) (by kernel_rfl) (by simp) (AllDyn.cons rfl (fun V hV K hK => ?_) AllDyn.nil)
                        rw [if_pos (by rfl)]
                        have hBV := HB34.out.trans ((Bl.out' hV).mono HB34.out.size)
                        have hC := between_any pz pl iz cq tt.r.recs.length cl kk (txb tt.r.recs) V (by have h := HRV.out V hBV; unfold txb at h ⊢; rw [← List.map_take]; exact h) (HOl.out V hBV) HIJ.out.1 HIJ.out.2 (by have := HRF.out; omega)
                        refine wp_enterX 27 #[.slice pz iz cq, .slice pl tt.r.recs.length cl, .int .i64 kk] (by first | (go_simp; done) | (go_simp; rfl)) (fun v V' => v = .bool true ∧ Below V.heap.size V V') (hC.mono fun e V' ⟨h1, h2⟩ => ⟨_, h1, rfl, h2⟩) ?_
                        rintro v V1 ⟨rfl, hb⟩
                        refine hK.out (Bl W3) _ _ (Bl.stays W3) (fun _ _ h => h) (Bl.stays W3 _ _ hV hb) ?_
                        clear hK K hV hC hb
                        (try simp only [Act.put, List.getElem_toArray, List.getElem_cons_zero, List.getElem_cons_succ, List.setIfInBounds_toArray, List.set_cons_zero, List.set_cons_succ])
                        refine wpDyn_take ?vT11x24 (Bl.stays W3) (fun _ h => h) (i := 24) rfl (by kernel_rfl) (by kernel_rfl) (by kernel_rfl) (by kernel_rfl) (by kernel_rfl) (fun _ _ _ h => h) (Gives.value (by rfl) ?yT11x24) ?rT11x24
                        case yT11x24 => (intro w' hSw; go_simp; try with_reducible rfl)
                        (try simp only [Act.put, List.getElem_toArray, List.getElem_cons_zero, List.getElem_cons_succ, List.setIfInBounds_toArray, List.set_cons_zero, List.set_cons_succ])
                        refine wpDyn_take ?vT11x25 (Bl.stays W3) (fun _ h => h) (i := 25) rfl (by kernel_rfl) (by kernel_rfl) (by kernel_rfl) (by kernel_rfl) (by kernel_rfl) (fun _ _ _ h => h) (Gives.value (by rfl) ?yT11x25) ?rT11x25
                        case yT11x25 => (intro w' hSw; go_simp; try with_reducible rfl)
                        (try simp only [Act.put, List.getElem_toArray, List.getElem_cons_zero, List.getElem_cons_succ, List.setIfInBounds_toArray, List.set_cons_zero, List.set_cons_succ])
                        refine wpDyn_take ?vT11x26 (Bl.stays W3) (fun _ h => h) (i := 26) rfl (by kernel_rfl) (by kernel_rfl) (by kernel_rfl) (by kernel_rfl) (by kernel_rfl) (fun _ _ _ h => h) (Gives.value (by rfl) ?yT11x26) ?rT11x26
                        case yT11x26 => (intro w' hSw; go_simp; try with_reducible rfl)
                        (try simp only [Act.put, List.getElem_toArray, List.getElem_cons_zero, List.getElem_cons_succ, List.setIfInBounds_toArray, List.set_cons_zero, List.set_cons_succ])
                        refine wpDyn_ready (rs := [27]) (by kernel_rfl) (by simp) (AllDyn.cons rfl (fun V hV K hK => ?_) AllDyn.nil)
                        rw [if_pos (by rfl)]
                        have hC := awake_any V
                        refine wp_enterX 8 #[] (by first | (go_simp; done) | (go_simp; rfl)) (fun v V' => v = .bool true ∧ Below V.heap.size V V') (hC.mono fun e V' ⟨h1, h2⟩ => ⟨_, h1, rfl, h2⟩) ?_
                        rintro v V1 ⟨rfl, hb⟩
                        refine hK.out (Bl W3) _ _ (Bl.stays W3) (fun _ _ h => h) (Bl.stays W3 _ _ hV hb) ?_
                        clear hK K hV hC hb
                        (try simp only [Act.put, List.getElem_toArray, List.getElem_cons_zero, List.getElem_cons_succ, List.setIfInBounds_toArray, List.set_cons_zero, List.set_cons_succ])
                        refine wpDyn_take ?vT11x28 (Bl.stays W3) (fun _ h => h) (i := 28) rfl (by kernel_rfl) (by kernel_rfl) (by kernel_rfl) (by kernel_rfl) (by kernel_rfl) (fun _ _ _ h => h) (Gives.value (by rfl) ?yT11x28) ?rT11x28
                        case yT11x28 => (intro w' hSw; go_simp; try with_reducible rfl)
                        (try simp only [Act.put, List.getElem_toArray, List.getElem_cons_zero, List.getElem_cons_succ, List.setIfInBounds_toArray, List.set_cons_zero, List.set_cons_succ])
                        refine wpDyn_take ?vT11x29 (Bl.stays W3) (fun _ h => h) (i := 29) rfl (by kernel_rfl) (by kernel_rfl) (by kernel_rfl) (by kernel_rfl) (by kernel_rfl) (fun _ _ _ h => h) (Gives.value (by rfl) ?yT11x29) ?rT11x29
                        case yT11x29 => (intro w' hSw; go_simp; try with_reducible rfl)
                        (try simp only [Act.put, List.getElem_toArray, List.getElem_cons_zero, List.getElem_cons_succ, List.setIfInBounds_toArray, List.set_cons_zero, List.set_cons_succ])
                        refine wpDyn_done (by kernel_rfl) (fun W4 hW4 => ?_) _
                        have HB99 : Hid (Below H w W4) := HB3.out.trans ((HB11.out.trans ((HB34.out.trans ((Bl.out' hW4).mono HB34.out.size)).mono HL11.out)).mono HHL.out)
                        clear hW4
                        go_wp2_with fail
                        go_ret
                        exact ⟨rfl, by have h := HB99.out; rw [HH.out] at h; exact h⟩
              · skip
                as_aux_lemma =>
                  have HC9 : Hid (Kp (svT mm tt x.b x.l).2.1 (svT mm tt x.b x.l).2.2 kk (1000 + 100 * (jj + 1) + 4 * szT ls (jj + 1)) (1 + jj) ∧ (svT mm tt x.b x.l).2.2 = tt) := ⟨hkp, ht⟩
                  obtain ⟨cz, Hcz⟩ : ∃ z, Hid (z = (svT mm tt x.b x.l).1) := ⟨_, rfl⟩
                  rw [← Hcz.out] at hC hz0 hz50
                  have hq0 : (cz == 0) = false := beq_false_of_ne hz0
                  have hq50 : (cz == 50) = false := beq_false_of_ne hz50
                  clear hz0 hz50 hkp ht
                  go_wp2_with fail
                  rw [← Hwb.out]
                  refine hC.mono ?_
                  rintro e3 w6 ⟨rfl, ow6, hT6, ho6, hc6⟩
                  clear hC
                  have HI6 : Hid (KI w3 w6 L g gt ow6 ls (jj + 1) (svT mm tt x.b x.l).2.1 (svT mm tt x.b x.l).2.2 kk nk pb cb us pr cr vs pl cl) :=
                    ⟨hT6, HC9.out.1.mono (Nat.le_refl _) (by omega), by rw [HC9.out.2]; have h1 := HI.out.few; have h2 := HSz.out.1; omega, by rw [HC9.out.2]; exact HI.out.kr.op HI.out.ts.og hc6 ho6, by rw [HC9.out.2]; exact HI.out.lb, by have := HI.out.nkj; omega, HI.out.bel.trans (hc6.lowB2 HI.out.ts)⟩
                  clear hT6 ho6 hc6
                  go_wp2_with fail
                  go_roundw
                  case rel => exact ⟨jj + 1, ow6, _, _, kk, nk, pb, cb, us, pr, cr, vs, pl, cl, by omega, by go_num, rfl, rfl, rfl, rfl, HI6.out⟩
                  case measure => simp [intOf]; omega
            | false =>
              cases h6 : (bits BinOp.and IntKind.i64 x.op 7 == 6) with
              | true =>
                go_wp2_with fail
                rw [← Hwb.out]
                go_roundw
                case rel => exact ⟨jj + 1, ow, mm, tt, kk, nk, pb, cb, us, pr, cr, vs, pl, cl, by omega, by go_num, rfl, rfl, rfl, rfl, HI.out.skip⟩
                case measure => simp [intOf]; omega
              | false =>
                cases h7 : (bits BinOp.and IntKind.i64 x.op 7 == 7) with
                | true =>
                  go_wp2_with fail
                  rw [← Hwb.out]
                  go_roundw
                  case rel => exact ⟨jj + 1, ow, mm, tt, kk, nk, pb, cb, us, pr, cr, vs, pl, cl, by omega, by go_num, rfl, rfl, rfl, rfl, HI.out.skip⟩
                  case measure => simp [intOf]; omega
                | false =>
                  have hbw1 := HBW.out
                  rw [HH.out] at hbw1
                  have hC := Put_S2 wr wb L 0 g gt ow mm tt _ (by decide) HTR.out.1 HTR.out.2 ⟨HI.out.kp.ok, HI.out.kp.up⟩ (by have := HS.out; omega) HI.out.kp.file (by have := HRF.out; omega) x.bq x.bl x.bc x.b (HRD.out.b.below' hbw1) HRD.out.y (fun a ea h0 => HTR.out.1.old2 (Nat.lt_of_lt_of_le (HRD.out.b.ltb a ea h0) (by rw [← HH.out]; exact HHL.out)))
                  obtain ⟨br, or_, hpr, hcr⟩ := HI.out.kr.rs.rd.cells (Nat.succ_pos _)
                  have HPR : Hid (pr = some ⟨br, or_, none⟩) := hpr
                  have hnk60 : nk ≤ 100 := HNK.out
                  have hnk1 : (nk : Int) < ((nk + 1 : Nat) : Int) := by omega
                  clear hcr hpr hbw1
                  rcases HI.out.kp.put HRD.out.y (by have := HSz.out; omega) (by have := HS.out; have := HXL.out; omega) with ⟨hz, hkp, hr⟩ | ⟨hz, hgot⟩ | ⟨hz0, hz50, hm, ht⟩
                  · skip
                    as_aux_lemma =>
                      rw [hz] at hC
                      have HKP : Hid (Kp (ptT mm tt x.b).2.1 (ptT mm tt x.b).2.2 kk (1000 + 100 * jj + 4 * szT ls jj + x.b.length + 14) (1 + jj) ∧ (ptT mm tt x.b).2.2.r = ⟨tt.r.gen, tt.r.base, tt.r.recs ++ [x.b]⟩) := ⟨hkp, hr⟩
                      clear hz hkp hr
                      rw [HPR.out]
                      go_wp2_with fail
                      rw [← Hwb.out]
                      refine hC.mono ?_
                      rintro e3 w6 ⟨rfl, ow6, hT6, ho6, hc6⟩
                      clear hC
                      have HK6 : Hid (KR w6 ow6 L nk pb cb us pr cr vs pl cl tt.r.recs) := HI.out.kr.op HI.out.ts.og hc6 ho6
                      have HB6 : Hid (Below L w3 w6) := HI.out.bel.trans (hc6.lowB2 HI.out.ts)
                      have hAx6 := HAX.out.1.ch hc6 (fun e => e HAX.out.2)
                      have HAX6 : Hid (At 52 w6 bx0 #[.int .i64 x.op, .int .i64 x.n, .slice x.bq x.bl x.bc, .slice x.lq x.ll x.lc, .slice x.kq x.kl x.kc] ∧ ow6 bx0 ≠ lawM) := ⟨hAx6, by rw [ho6 bx0 HAX.out.1.lt]; exact fun e => by rw [(show ow bx0 = 0 from by rw [Hbx0.out]; exact (HTR.out.1.new (Nat.le_refl _)).1)] at e; cases e⟩
                      have HT6 : Hid (TSx w6 L 0 g gt ow6 (ptT mm tt x.b).2.1 (ptT mm tt x.b).2.2) := hT6
                      have HL6 : Hid (L ≤ w6.heap.size) := hT6.o.lw
                      have HXB : Hid (Rd .u8 w6 x.bq x.bl x.bc x.b) := HRD.out.b.below' (by rw [← HH.out]; exact HB3.out.trans (HB6.out.mono HHL.out))
                      obtain ⟨br2, or2, hpr2, hcr2⟩ := HK6.out.rs.rd.cells (Nat.succ_pos _)
                      rw [HPR.out] at hpr2
                      cases hpr2
                      have hcr1 := hcr2 nk (Nat.lt_succ_self _)
                      rw [HK6.out.lv] at hcr1
                      have HRr : Hid (w6.cell? ⟨br, or_ + nk, none⟩ = some (.slice pl tt.r.recs.length cl)) := hcr1
                      have HCB : Hid (w6.cell? ⟨bx0, 2, none⟩ = some (.slice x.bq x.bl x.bc)) := hAx6.cell 2
                      clear hT6 ho6 hc6 hAx6 hcr2 hcr1
                      go_wp2_with fail
                      rw [← Hbx0.out]
                      have hS8 : Bl w6 w6.drew := (Below.refl _ _).drew
                      refine wp_region_dyn [0, 1, 2, 3, 4, 5, 7, 8, 9] (Bl w6) (Bl w6) (by kernel_rfl) hS8 ?_
                      clear hS8
                      refine wpDyn_take ?vT12x0 (Bl.stays w6) (fun _ h => h) (i := 0) rfl (by kernel_rfl) (by kernel_rfl) (by kernel_rfl) (by kernel_rfl) (by kernel_rfl) (fun _ _ _ h => h) (Gives.value (by rfl) ?yT12x0) ?rT12x0
                      case yT12x0 => (intro w' hSw; go_simp; try with_reducible rfl)
                      (try simp only [Act.put, List.getElem_toArray, List.getElem_cons_zero, List.getElem_cons_succ, List.setIfInBounds_toArray, List.set_cons_zero, List.set_cons_succ])
                      refine wpDyn_take ?vT12x1 (Bl.stays w6) (fun _ h => h) (i := 1) rfl (by kernel_rfl) (by kernel_rfl) (by kernel_rfl) (by kernel_rfl) (by kernel_rfl) (fun _ _ _ h => h) (Gives.value (by rfl) ?yT12x1) ?rT12x1
                      case yT12x1 => (intro w' hSw; go_simp; try with_reducible rfl)
                      (try simp only [Act.put, List.getElem_toArray, List.getElem_cons_zero, List.getElem_cons_succ, List.setIfInBounds_toArray, List.set_cons_zero, List.set_cons_succ])
                      refine wpDyn_take ?vT12x2 (Bl.stays w6) (fun _ h => h) (i := 2) rfl (by kernel_rfl) (by kernel_rfl) (by kernel_rfl) (by kernel_rfl) (by kernel_rfl) (fun _ _ _ h => h) (Gives.value (by rfl) ?yT12x2) ?rT12x2
                      case yT12x2 => (intro w' hSw; go_simp; try with_reducible rfl)
                      (try simp only [Act.put, List.getElem_toArray, List.getElem_cons_zero, List.getElem_cons_succ, List.setIfInBounds_toArray, List.set_cons_zero, List.set_cons_succ])
                      refine wpDyn_take ?vT12x3 (Bl.stays w6) (fun _ h => h) (i := 3) rfl (by kernel_rfl) (by kernel_rfl) (by kernel_rfl) (by kernel_rfl) (by kernel_rfl) (fun _ _ _ h => h) (Gives.value (by rfl) ?yT12x3) ?rT12x3
                      case yT12x3 => (intro w' hSw; go_simp; try with_reducible rfl)
                      (try simp only [Act.put, List.getElem_toArray, List.getElem_cons_zero, List.getElem_cons_succ, List.setIfInBounds_toArray, List.set_cons_zero, List.set_cons_succ])
                      refine wpDyn_take (.pointer (some ⟨br, or_ + nk, none⟩)) (Bl.stays w6) (fun _ h => h) (i := 4) rfl (by kernel_rfl) (by kernel_rfl) (by kernel_rfl) (by kernel_rfl) (by kernel_rfl) (fun _ _ _ h => h) (Gives.value (by rfl) ?yT12x4) ?rT12x4
                      case yT12x4 => (intro w' hSw; go_simp; try (intro hx; exfalso; omega))
                      (try simp only [Act.put, List.getElem_toArray, List.getElem_cons_zero, List.getElem_cons_succ, List.setIfInBounds_toArray, List.set_cons_zero, List.set_cons_succ])
                      refine wpDyn_take ?vT12x5 (Bl.stays w6) (fun _ h => h) (i := 5) rfl (by kernel_rfl) (by kernel_rfl) (by kernel_rfl) (by kernel_rfl) (by kernel_rfl) (fun _ _ _ h => h) (Gives.value (by rfl) ?yT12x5) ?rT12x5
                      case yT12x5 => (intro w' hSw; have hcl := cell_below (Bl.out' hSw) HRr.out; clear hSw; go_simp; try with_reducible rfl)
                      (try simp only [Act.put, List.getElem_toArray, List.getElem_cons_zero, List.getElem_cons_succ, List.setIfInBounds_toArray, List.set_cons_zero, List.set_cons_succ])
                      refine wpDyn_take ?vT12x7 (Bl.stays w6) (fun _ h => h) (i := 7) rfl (by kernel_rfl) (by kernel_rfl) (by kernel_rfl) (by kernel_rfl) (by kernel_rfl) (fun _ _ _ h => h) (Gives.value (by rfl) ?yT12x7) ?rT12x7
                      case yT12x7 => (intro w' hSw; go_simp; try with_reducible rfl)
                      (try simp only [Act.put, List.getElem_toArray, List.getElem_cons_zero, List.getElem_cons_succ, List.setIfInBounds_toArray, List.set_cons_zero, List.set_cons_succ])
                      refine wpDyn_take ?vT12x8 (Bl.stays w6) (fun _ h => h) (i := 8) rfl (by kernel_rfl) (by kernel_rfl) (by kernel_rfl) (by kernel_rfl) (by kernel_rfl) (fun _ _ _ h => h) (Gives.value (by rfl) ?yT12x8) ?rT12x8
                      case yT12x8 => (intro w' hSw; have hcl := cell_below (Bl.out' hSw) HCB.out; clear hSw; go_simp; try with_reducible rfl)
                      (try simp only [Act.put, List.getElem_toArray, List.getElem_cons_zero, List.getElem_cons_succ, List.setIfInBounds_toArray, List.set_cons_zero, List.set_cons_succ])
                      refine wpDyn_take ?vT12x9 (Bl.stays w6) (fun _ h => h) (i := 9) rfl (by kernel_rfl) (by kernel_rfl) (by kernel_rfl) (by kernel_rfl) (by kernel_rfl) (fun _ _ _ h => h) (Gives.value (by rfl) ?yT12x9) ?rT12x9
                      case yT12x9 => (intro w' hSw; have hst := (HXB.out.below' (Bl.out' hSw)).str; go_simp; try with_reducible rfl)
                      (try simp only [Act.put, List.getElem_toArray, List.getElem_cons_zero, List.getElem_cons_succ, List.setIfInBounds_toArray, List.set_cons_zero, List.set_cons_succ])
                      refine wpDyn_ready (rs := [6, 10]) (by kernel_rfl) (by simp) (AllDyn.cons rfl (fun V hV K hK => ?_) (AllDyn.cons rfl (fun V hV K hK => ?_) AllDyn.nil))
                      · skip
                        as_aux_lemma =>
                          rw [if_pos (by rfl)]
                          have hC := cloneS_any pl tt.r.recs.length cl tt.r.recs V (HK6.out.below (Bl.out' hV)).lr.rd (by have := HRF.out; omega)
                          have hVs := (Bl.out' hV).size
                          refine wp_enterX 24 #[.slice pl tt.r.recs.length cl] (by first | (go_simp; done) | (go_simp; rfl)) (fun v V' => ∃ p' c', v = .slice p' tt.r.recs.length c' ∧ OwG 9 V' w6.heap.size p' tt.r.recs.length c' (strs tt.r.recs) ∧ Below V.heap.size V V') (hC.mono fun e V' ⟨p', c', h1, h2, h3⟩ => ⟨_, h1, p', c', rfl, h2.g.lowerB hVs, h3⟩) ?_
                          rintro v V1 ⟨p6, c6, rfl, hR, hb⟩
                          refine hK.out (fun W => Bl w6 W ∧ OwG 9 W w6.heap.size p6 tt.r.recs.length c6 (strs tt.r.recs)) _ _ (fun _ _ h hb => ⟨Bl.stays w6 _ _ h.1 hb, h.2.below hb⟩) (fun _ _ h => h.1) ⟨Bl.stays w6 _ _ hV hb, hR⟩ ?_
                          clear hK K hV hC hR hb hVs
                          (try simp only [Act.put, List.getElem_toArray, List.getElem_cons_zero, List.getElem_cons_succ, List.setIfInBounds_toArray, List.set_cons_zero, List.set_cons_succ])
                          refine wpDyn_ready (rs := [10]) (by kernel_rfl) (by simp) (AllDyn.cons rfl (fun V hV K hK => ?_) AllDyn.nil)
                          rw [if_pos (by rfl)]
                          refine wp_value (.slice (some ⟨V.heap.size, 0, none⟩) 1 1) (V.alloc (.cells #[.string (strOfNums x.b)] 9)) (by first | (go_simp; done) | (go_simp; rfl)) ?_
                          have hb := below_alloc V (.cells #[.string (strOfNums x.b)] 9)
                          have hc10 : (V.alloc (.cells #[.string (strOfNums x.b)] 9)).cell? ⟨V.heap.size, 0, none⟩ = some (.string (strOfNums x.b)) := by simp
                          obtain ⟨b10, Hb10⟩ : ∃ z, Hid (z = V.heap.size) := ⟨_, rfl⟩
                          rw [← Hb10.out] at hc10 ⊢
                          refine hK.out (fun W => Bl w6 W ∧ OwG 9 W w6.heap.size p6 tt.r.recs.length c6 (strs tt.r.recs) ∧ W.cell? ⟨b10, 0, none⟩ = some (.string (strOfNums x.b))) _ _ (fun _ _ h hb => ⟨Bl.stays w6 _ _ h.1 hb, h.2.1.below hb, cell_below hb h.2.2⟩) (fun _ _ h => h.1) ⟨Bl.stays w6 _ _ hV.1 hb, hV.2.below hb, hc10⟩ ?_
                          clear hK K hV hb hc10
                          (try simp only [Act.put, List.getElem_toArray, List.getElem_cons_zero, List.getElem_cons_succ, List.setIfInBounds_toArray, List.set_cons_zero, List.set_cons_succ])
                          refine wpDyn_ready (rs := [11]) (by kernel_rfl) (by simp) (AllDyn.cons rfl (fun V hV K hK => ?_) AllDyn.nil)
                          rw [if_pos (by rfl)]
                          obtain ⟨p11, c11, W11, hrun, hB11, hO11⟩ := app_clone hV.1 hV.2.1 hV.2.2 (by have := HRF.out; omega) 49
                          refine wp_append6 (.tmp 83) (.tmp 87) 49 rfl _ _ _ W11 rfl rfl hrun ?_
                          refine hK.out (fun W => Bl w6 W ∧ OwG 9 W w6.heap.size p11 (tt.r.recs.length + 1) c11 (strs (tt.r.recs ++ [x.b]))) _ _ (fun _ _ h hb => ⟨Bl.stays w6 _ _ h.1 hb, h.2.below hb⟩) (fun _ _ h => h.1) ⟨hB11, hO11⟩ ?_
                          clear hK K hV hrun hB11 hO11
                          (try simp only [Act.put, List.getElem_toArray, List.getElem_cons_zero, List.getElem_cons_succ, List.setIfInBounds_toArray, List.set_cons_zero, List.set_cons_succ])
                          refine wpDyn_ready (rs := [12]) (by kernel_rfl) (by simp) (AllDyn.cons rfl (fun V hV K hK => ?_) AllDyn.nil)
                          rw [if_pos (by rfl)]
                          refine wp_value (.pointer (some ⟨br, or_ + nk, none⟩)) V (by first | (go_simp; done) | (go_simp; rfl) | (go_simp; intro hx; exfalso; omega)) ?_
                          refine hK.out (fun W => Bl w6 W ∧ OwG 9 W w6.heap.size p11 (tt.r.recs.length + 1) c11 (strs (tt.r.recs ++ [x.b]))) _ _ (fun _ _ h hb => ⟨Bl.stays w6 _ _ h.1 hb, h.2.below hb⟩) (fun _ _ h => h.1) hV ?_
                          clear hK K hV
                          (try simp only [Act.put, List.getElem_toArray, List.getElem_cons_zero, List.getElem_cons_succ, List.setIfInBounds_toArray, List.set_cons_zero, List.set_cons_succ])
                          refine wpDyn_ready (rs := [13]) (by kernel_rfl) (by simp) (AllDyn.cons rfl (fun V hV K hK => ?_) AllDyn.nil)
                          rw [if_pos (by rfl)]
                          have elen : (tt.r.recs ++ [x.b]).length = tt.r.recs.length + 1 := by rw [List.length_append]; rfl
                          obtain ⟨⟨u13, hu13⟩, hf13, hk13⟩ := store_reel (p11 := p11) (c11 := c11) (R := tt.r.recs ++ [x.b]) HK6.out HPR.out hV.1 (by rw [elen]; exact hV.2)
                          rw [elen] at hk13
                          refine wp_store_one _ _ _ rfl br (or_ + nk) (.slice p11 (tt.r.recs.length + 1) c11) rfl rfl u13 rfl rfl sizeL6 hu13 hf13 ?_
                          refine hK.out (fun W => K13 w6 W ow6 L nk pb cb us pr cr vs p11 c11 (tt.r.recs ++ [x.b])) _ _ (fun _ _ h hb => h.below hb) (no_leanT (by kernel_rfl)) hk13 ?_
                          clear hK K hV hu13 hf13 hk13 elen
                          (try simp only [Act.put, List.getElem_toArray, List.getElem_cons_zero, List.getElem_cons_succ, List.setIfInBounds_toArray, List.set_cons_zero, List.set_cons_succ])
                          refine wpDyn_done (by kernel_rfl) (fun W2 hW2 => ?_) _
                          have HW : Hid (K13 w6 W2 ow6 L nk pb cb us pr cr vs p11 c11 (tt.r.recs ++ [x.b])) := hW2
                          clear hW2
                          have HK2 : Hid (KR W2 (lawO ow6 w6.heap.size W2.heap.size) L nk pb cb us pr cr (vs.set nk (.slice p11 (tt.r.recs ++ [x.b]).length c11)) p11 c11 (tt.r.recs ++ [x.b])) := HK6.out.put HL6.out HW.out
                          have HT2 : Hid (TSx W2 L 0 g gt (lawO ow6 w6.heap.size W2.heap.size) (ptT mm tt x.b).2.1 (ptT mm tt x.b).2.2) := HT6.out.law2 (by decide) HW.out.ch
                          have HB2 : Hid (Below L w3 W2) := HB6.out.trans (HW.out.ch.lowL HL6.out (fun k hk e => by have h9 := (HT6.out.old2 hk).1; have h8 : ow6 k = 0 := (HT6.out.old hk).1; rw [h8] at e; cases e))
                          have hAx2 := HAX6.out.1.ch HW.out.ch HAX6.out.2
                          clear hAx2
                          go_wp2_with fail
                          go_roundw
                          case rel =>
                            have h9 : KI w3 W2 L g gt (lawO ow6 w6.heap.size W2.heap.size) ls (jj + 1) (ptT mm tt x.b).2.1 (ptT mm tt x.b).2.2 kk nk pb cb us pr cr (vs.set nk (.slice p11 (tt.r.recs ++ [x.b]).length c11)) p11 c11 :=
                              ⟨HT2.out, HKP.out.1.mono (by have h1 := HSz.out.1; have h2 := HXL.out; have h3 := HCO.out; omega) (by omega), by rw [HKP.out.2]; show (tt.r.recs ++ [x.b]).length ≤ _; rw [List.length_append]; have h1 := HI.out.few; have h2 := HSz.out.1; show tt.r.recs.length + 1 ≤ _; omega, by rw [HKP.out.2]; exact HK2.out, by rw [HKP.out.2]; exact HI.out.lb, by have := HI.out.nkj; omega, HB2.out⟩
                            exact ⟨jj + 1, _, _, _, kk, nk, pb, cb, us, pr, cr, _, p11, c11, by omega, by go_num, rfl, by rw [HPR.out], rfl, rfl, h9⟩
                          case measure => simp [intOf]; omega
                      · skip
                        as_aux_lemma =>
                          rw [if_pos (by rfl)]
                          refine wp_value (.slice (some ⟨V.heap.size, 0, none⟩) 1 1) (V.alloc (.cells #[.string (strOfNums x.b)] 9)) (by first | (go_simp; done) | (go_simp; rfl)) ?_
                          have hb := below_alloc V (.cells #[.string (strOfNums x.b)] 9)
                          have hc10 : (V.alloc (.cells #[.string (strOfNums x.b)] 9)).cell? ⟨V.heap.size, 0, none⟩ = some (.string (strOfNums x.b)) := by simp
                          obtain ⟨b10, Hb10⟩ : ∃ z, Hid (z = V.heap.size) := ⟨_, rfl⟩
                          rw [← Hb10.out] at hc10 ⊢
                          refine hK.out (fun W => Bl w6 W ∧ W.cell? ⟨b10, 0, none⟩ = some (.string (strOfNums x.b))) _ _ (fun _ _ h hb => ⟨Bl.stays w6 _ _ h.1 hb, cell_below hb h.2⟩) (fun _ _ h => h.1) ⟨Bl.stays w6 _ _ hV hb, hc10⟩ ?_
                          clear hK K hV hb hc10
                          (try simp only [Act.put, List.getElem_toArray, List.getElem_cons_zero, List.getElem_cons_succ, List.setIfInBounds_toArray, List.set_cons_zero, List.set_cons_succ])
                          refine wpDyn_ready (rs := [6]) (by kernel_rfl) (by simp) (AllDyn.cons rfl (fun V hV K hK => ?_) AllDyn.nil)
                          rw [if_pos (by rfl)]
                          have hC := cloneS_any pl tt.r.recs.length cl tt.r.recs V (HK6.out.below (Bl.out' hV.1)).lr.rd (by have := HRF.out; omega)
                          have hVs := (Bl.out' hV.1).size
                          refine wp_enterX 24 #[.slice pl tt.r.recs.length cl] (by first | (go_simp; done) | (go_simp; rfl)) (fun v V' => ∃ p' c', v = .slice p' tt.r.recs.length c' ∧ OwG 9 V' w6.heap.size p' tt.r.recs.length c' (strs tt.r.recs) ∧ Below V.heap.size V V') (hC.mono fun e V' ⟨p', c', h1, h2, h3⟩ => ⟨_, h1, p', c', rfl, h2.g.lowerB hVs, h3⟩) ?_
                          rintro v V1 ⟨p6, c6, rfl, hR, hb⟩
                          refine hK.out (fun W => Bl w6 W ∧ OwG 9 W w6.heap.size p6 tt.r.recs.length c6 (strs tt.r.recs) ∧ W.cell? ⟨b10, 0, none⟩ = some (.string (strOfNums x.b))) _ _ (fun _ _ h hb => ⟨Bl.stays w6 _ _ h.1 hb, h.2.1.below hb, cell_below hb h.2.2⟩) (fun _ _ h => h.1) ⟨Bl.stays w6 _ _ hV.1 hb, hR, cell_below hb hV.2⟩ ?_
                          clear hK K hV hC hR hb hVs
                          (try simp only [Act.put, List.getElem_toArray, List.getElem_cons_zero, List.getElem_cons_succ, List.setIfInBounds_toArray, List.set_cons_zero, List.set_cons_succ])
                          refine wpDyn_ready (rs := [11]) (by kernel_rfl) (by simp) (AllDyn.cons rfl (fun V hV K hK => ?_) AllDyn.nil)
                          rw [if_pos (by rfl)]
                          obtain ⟨p11, c11, W11, hrun, hB11, hO11⟩ := app_clone hV.1 hV.2.1 hV.2.2 (by have := HRF.out; omega) 49
                          refine wp_append6 (.tmp 83) (.tmp 87) 49 rfl _ _ _ W11 rfl rfl hrun ?_
                          refine hK.out (fun W => Bl w6 W ∧ OwG 9 W w6.heap.size p11 (tt.r.recs.length + 1) c11 (strs (tt.r.recs ++ [x.b]))) _ _ (fun _ _ h hb => ⟨Bl.stays w6 _ _ h.1 hb, h.2.below hb⟩) (fun _ _ h => h.1) ⟨hB11, hO11⟩ ?_
                          clear hK K hV hrun hB11 hO11
                          (try simp only [Act.put, List.getElem_toArray, List.getElem_cons_zero, List.getElem_cons_succ, List.setIfInBounds_toArray, List.set_cons_zero, List.set_cons_succ])
                          refine wpDyn_ready (rs := [12]) (by kernel_rfl) (by simp) (AllDyn.cons rfl (fun V hV K hK => ?_) AllDyn.nil)
                          rw [if_pos (by rfl)]
                          refine wp_value (.pointer (some ⟨br, or_ + nk, none⟩)) V (by first | (go_simp; done) | (go_simp; rfl) | (go_simp; intro hx; exfalso; omega)) ?_
                          refine hK.out (fun W => Bl w6 W ∧ OwG 9 W w6.heap.size p11 (tt.r.recs.length + 1) c11 (strs (tt.r.recs ++ [x.b]))) _ _ (fun _ _ h hb => ⟨Bl.stays w6 _ _ h.1 hb, h.2.below hb⟩) (fun _ _ h => h.1) hV ?_
                          clear hK K hV
                          (try simp only [Act.put, List.getElem_toArray, List.getElem_cons_zero, List.getElem_cons_succ, List.setIfInBounds_toArray, List.set_cons_zero, List.set_cons_succ])
                          refine wpDyn_ready (rs := [13]) (by kernel_rfl) (by simp) (AllDyn.cons rfl (fun V hV K hK => ?_) AllDyn.nil)
                          rw [if_pos (by rfl)]
                          have elen : (tt.r.recs ++ [x.b]).length = tt.r.recs.length + 1 := by rw [List.length_append]; rfl
                          obtain ⟨⟨u13, hu13⟩, hf13, hk13⟩ := store_reel (p11 := p11) (c11 := c11) (R := tt.r.recs ++ [x.b]) HK6.out HPR.out hV.1 (by rw [elen]; exact hV.2)
                          rw [elen] at hk13
                          refine wp_store_one _ _ _ rfl br (or_ + nk) (.slice p11 (tt.r.recs.length + 1) c11) rfl rfl u13 rfl rfl sizeL6 hu13 hf13 ?_
                          refine hK.out (fun W => K13 w6 W ow6 L nk pb cb us pr cr vs p11 c11 (tt.r.recs ++ [x.b])) _ _ (fun _ _ h hb => h.below hb) (no_leanT (by kernel_rfl)) hk13 ?_
                          clear hK K hV hu13 hf13 hk13 elen
                          (try simp only [Act.put, List.getElem_toArray, List.getElem_cons_zero, List.getElem_cons_succ, List.setIfInBounds_toArray, List.set_cons_zero, List.set_cons_succ])
                          refine wpDyn_done (by kernel_rfl) (fun W2 hW2 => ?_) _
                          have HW : Hid (K13 w6 W2 ow6 L nk pb cb us pr cr vs p11 c11 (tt.r.recs ++ [x.b])) := hW2
                          clear hW2
                          have HK2 : Hid (KR W2 (lawO ow6 w6.heap.size W2.heap.size) L nk pb cb us pr cr (vs.set nk (.slice p11 (tt.r.recs ++ [x.b]).length c11)) p11 c11 (tt.r.recs ++ [x.b])) := HK6.out.put HL6.out HW.out
                          have HT2 : Hid (TSx W2 L 0 g gt (lawO ow6 w6.heap.size W2.heap.size) (ptT mm tt x.b).2.1 (ptT mm tt x.b).2.2) := HT6.out.law2 (by decide) HW.out.ch
                          have HB2 : Hid (Below L w3 W2) := HB6.out.trans (HW.out.ch.lowL HL6.out (fun k hk e => by have h9 := (HT6.out.old2 hk).1; have h8 : ow6 k = 0 := (HT6.out.old hk).1; rw [h8] at e; cases e))
                          have hAx2 := HAX6.out.1.ch HW.out.ch HAX6.out.2
                          clear hAx2
                          go_wp2_with fail
                          go_roundw
                          case rel =>
                            have h9 : KI w3 W2 L g gt (lawO ow6 w6.heap.size W2.heap.size) ls (jj + 1) (ptT mm tt x.b).2.1 (ptT mm tt x.b).2.2 kk nk pb cb us pr cr (vs.set nk (.slice p11 (tt.r.recs ++ [x.b]).length c11)) p11 c11 :=
                              ⟨HT2.out, HKP.out.1.mono (by have h1 := HSz.out.1; have h2 := HXL.out; have h3 := HCO.out; omega) (by omega), by rw [HKP.out.2]; show (tt.r.recs ++ [x.b]).length ≤ _; rw [List.length_append]; have h1 := HI.out.few; have h2 := HSz.out.1; show tt.r.recs.length + 1 ≤ _; omega, by rw [HKP.out.2]; exact HK2.out, by rw [HKP.out.2]; exact HI.out.lb, by have := HI.out.nkj; omega, HB2.out⟩
                            exact ⟨jj + 1, _, _, _, kk, nk, pb, cb, us, pr, cr, _, p11, c11, by omega, by go_num, rfl, by rw [HPR.out], rfl, rfl, h9⟩
                          case measure => simp [intOf]; omega
                  · skip
                    as_aux_lemma =>
                      rw [hz] at hC
                      have HG : Hid (Got (onM (ptT mm tt x.b).2.1) tt.r.base (tt.r.recs ++ [x.b]) kk) := hgot
                      clear hz hgot
                      rw [HPR.out]
                      go_wp2_with fail
                      rw [← Hwb.out]
                      refine hC.mono ?_
                      rintro e3 w6 ⟨rfl, ow6, hT6, ho6, hc6⟩
                      clear hC
                      have HK6 : Hid (KR w6 ow6 L nk pb cb us pr cr vs pl cl tt.r.recs) := HI.out.kr.op HI.out.ts.og hc6 ho6
                      have HB6 : Hid (Below L w3 w6) := HI.out.bel.trans (hc6.lowB2 HI.out.ts)
                      have hAx6 := HAX.out.1.ch hc6 (fun e => e HAX.out.2)
                      have HAX6 : Hid (At 52 w6 bx0 #[.int .i64 x.op, .int .i64 x.n, .slice x.bq x.bl x.bc, .slice x.lq x.ll x.lc, .slice x.kq x.kl x.kc] ∧ ow6 bx0 ≠ lawM) := ⟨hAx6, by rw [ho6 bx0 HAX.out.1.lt]; exact fun e => by rw [(show ow bx0 = 0 from by rw [Hbx0.out]; exact (HTR.out.1.new (Nat.le_refl _)).1)] at e; cases e⟩
                      have HT6 : Hid (TSx w6 L 0 g gt ow6 (ptT mm tt x.b).2.1 (ptT mm tt x.b).2.2) := hT6
                      have HL6 : Hid (L ≤ w6.heap.size) := hT6.o.lw
                      have HXB : Hid (Rd .u8 w6 x.bq x.bl x.bc x.b) := HRD.out.b.below' (by rw [← HH.out]; exact HB3.out.trans (HB6.out.mono HHL.out))
                      obtain ⟨br2, or2, hpr2, hcr2⟩ := HK6.out.rs.rd.cells (Nat.succ_pos _)
                      rw [HPR.out] at hpr2
                      cases hpr2
                      have hcr1 := hcr2 nk (Nat.lt_succ_self _)
                      rw [HK6.out.lv] at hcr1
                      have HRr : Hid (w6.cell? ⟨br, or_ + nk, none⟩ = some (.slice pl tt.r.recs.length cl)) := hcr1
                      have HCB : Hid (w6.cell? ⟨bx0, 2, none⟩ = some (.slice x.bq x.bl x.bc)) := hAx6.cell 2
                      clear hT6 ho6 hc6 hAx6 hcr2 hcr1
                      go_wp2_with fail
                      rw [← Hbx0.out]
                      have hS8 : Bl w6 w6.drew := (Below.refl _ _).drew
                      refine wp_region_dyn [0, 1, 2, 3, 4, 5, 7, 8, 9] (Bl w6) (Bl w6) (by kernel_rfl) hS8 ?_
                      clear hS8
                      refine wpDyn_take ?vT17x0 (Bl.stays w6) (fun _ h => h) (i := 0) rfl (by kernel_rfl) (by kernel_rfl) (by kernel_rfl) (by kernel_rfl) (by kernel_rfl) (fun _ _ _ h => h) (Gives.value (by rfl) ?yT17x0) ?rT17x0
                      case yT17x0 => (intro w' hSw; go_simp; try with_reducible rfl)
                      (try simp only [Act.put, List.getElem_toArray, List.getElem_cons_zero, List.getElem_cons_succ, List.setIfInBounds_toArray, List.set_cons_zero, List.set_cons_succ])
                      refine wpDyn_take ?vT17x1 (Bl.stays w6) (fun _ h => h) (i := 1) rfl (by kernel_rfl) (by kernel_rfl) (by kernel_rfl) (by kernel_rfl) (by kernel_rfl) (fun _ _ _ h => h) (Gives.value (by rfl) ?yT17x1) ?rT17x1
                      case yT17x1 => (intro w' hSw; go_simp; try with_reducible rfl)
                      (try simp only [Act.put, List.getElem_toArray, List.getElem_cons_zero, List.getElem_cons_succ, List.setIfInBounds_toArray, List.set_cons_zero, List.set_cons_succ])
                      refine wpDyn_take ?vT17x2 (Bl.stays w6) (fun _ h => h) (i := 2) rfl (by kernel_rfl) (by kernel_rfl) (by kernel_rfl) (by kernel_rfl) (by kernel_rfl) (fun _ _ _ h => h) (Gives.value (by rfl) ?yT17x2) ?rT17x2
                      case yT17x2 => (intro w' hSw; go_simp; try with_reducible rfl)
                      (try simp only [Act.put, List.getElem_toArray, List.getElem_cons_zero, List.getElem_cons_succ, List.setIfInBounds_toArray, List.set_cons_zero, List.set_cons_succ])
                      refine wpDyn_take ?vT17x3 (Bl.stays w6) (fun _ h => h) (i := 3) rfl (by kernel_rfl) (by kernel_rfl) (by kernel_rfl) (by kernel_rfl) (by kernel_rfl) (fun _ _ _ h => h) (Gives.value (by rfl) ?yT17x3) ?rT17x3
                      case yT17x3 => (intro w' hSw; go_simp; try with_reducible rfl)
                      (try simp only [Act.put, List.getElem_toArray, List.getElem_cons_zero, List.getElem_cons_succ, List.setIfInBounds_toArray, List.set_cons_zero, List.set_cons_succ])
                      refine wpDyn_take (.pointer (some ⟨br, or_ + nk, none⟩)) (Bl.stays w6) (fun _ h => h) (i := 4) rfl (by kernel_rfl) (by kernel_rfl) (by kernel_rfl) (by kernel_rfl) (by kernel_rfl) (fun _ _ _ h => h) (Gives.value (by rfl) ?yT17x4) ?rT17x4
                      case yT17x4 => (intro w' hSw; go_simp; try (intro hx; exfalso; omega))
                      (try simp only [Act.put, List.getElem_toArray, List.getElem_cons_zero, List.getElem_cons_succ, List.setIfInBounds_toArray, List.set_cons_zero, List.set_cons_succ])
                      refine wpDyn_take ?vT17x5 (Bl.stays w6) (fun _ h => h) (i := 5) rfl (by kernel_rfl) (by kernel_rfl) (by kernel_rfl) (by kernel_rfl) (by kernel_rfl) (fun _ _ _ h => h) (Gives.value (by rfl) ?yT17x5) ?rT17x5
                      case yT17x5 => (intro w' hSw; have hcl := cell_below (Bl.out' hSw) HRr.out; clear hSw; go_simp; try with_reducible rfl)
                      (try simp only [Act.put, List.getElem_toArray, List.getElem_cons_zero, List.getElem_cons_succ, List.setIfInBounds_toArray, List.set_cons_zero, List.set_cons_succ])
                      refine wpDyn_take ?vT17x7 (Bl.stays w6) (fun _ h => h) (i := 7) rfl (by kernel_rfl) (by kernel_rfl) (by kernel_rfl) (by kernel_rfl) (by kernel_rfl) (fun _ _ _ h => h) (Gives.value (by rfl) ?yT17x7) ?rT17x7
                      case yT17x7 => (intro w' hSw; go_simp; try with_reducible rfl)
                      (try simp only [Act.put, List.getElem_toArray, List.getElem_cons_zero, List.getElem_cons_succ, List.setIfInBounds_toArray, List.set_cons_zero, List.set_cons_succ])
                      refine wpDyn_take ?vT17x8 (Bl.stays w6) (fun _ h => h) (i := 8) rfl (by kernel_rfl) (by kernel_rfl) (by kernel_rfl) (by kernel_rfl) (by kernel_rfl) (fun _ _ _ h => h) (Gives.value (by rfl) ?yT17x8) ?rT17x8
                      case yT17x8 => (intro w' hSw; have hcl := cell_below (Bl.out' hSw) HCB.out; clear hSw; go_simp; try with_reducible rfl)
                      (try simp only [Act.put, List.getElem_toArray, List.getElem_cons_zero, List.getElem_cons_succ, List.setIfInBounds_toArray, List.set_cons_zero, List.set_cons_succ])
                      refine wpDyn_take ?vT17x9 (Bl.stays w6) (fun _ h => h) (i := 9) rfl (by kernel_rfl) (by kernel_rfl) (by kernel_rfl) (by kernel_rfl) (by kernel_rfl) (fun _ _ _ h => h) (Gives.value (by rfl) ?yT17x9) ?rT17x9
                      case yT17x9 => (intro w' hSw; have hst := (HXB.out.below' (Bl.out' hSw)).str; go_simp; try with_reducible rfl)
                      (try simp only [Act.put, List.getElem_toArray, List.getElem_cons_zero, List.getElem_cons_succ, List.setIfInBounds_toArray, List.set_cons_zero, List.set_cons_succ])
                      refine wpDyn_ready (rs := [6, 10]) (by kernel_rfl) (by simp) (AllDyn.cons rfl (fun V hV K hK => ?_) (AllDyn.cons rfl (fun V hV K hK => ?_) AllDyn.nil))
                      · skip
                        as_aux_lemma =>
                          rw [if_pos (by rfl)]
                          have hC := cloneS_any pl tt.r.recs.length cl tt.r.recs V (HK6.out.below (Bl.out' hV)).lr.rd (by have := HRF.out; omega)
                          have hVs := (Bl.out' hV).size
                          refine wp_enterX 24 #[.slice pl tt.r.recs.length cl] (by first | (go_simp; done) | (go_simp; rfl)) (fun v V' => ∃ p' c', v = .slice p' tt.r.recs.length c' ∧ OwG 9 V' w6.heap.size p' tt.r.recs.length c' (strs tt.r.recs) ∧ Below V.heap.size V V') (hC.mono fun e V' ⟨p', c', h1, h2, h3⟩ => ⟨_, h1, p', c', rfl, h2.g.lowerB hVs, h3⟩) ?_
                          rintro v V1 ⟨p6, c6, rfl, hR, hb⟩
                          refine hK.out (fun W => Bl w6 W ∧ OwG 9 W w6.heap.size p6 tt.r.recs.length c6 (strs tt.r.recs)) _ _ (fun _ _ h hb => ⟨Bl.stays w6 _ _ h.1 hb, h.2.below hb⟩) (fun _ _ h => h.1) ⟨Bl.stays w6 _ _ hV hb, hR⟩ ?_
                          clear hK K hV hC hR hb hVs
                          (try simp only [Act.put, List.getElem_toArray, List.getElem_cons_zero, List.getElem_cons_succ, List.setIfInBounds_toArray, List.set_cons_zero, List.set_cons_succ])
                          refine wpDyn_ready (rs := [10]) (by kernel_rfl) (by simp) (AllDyn.cons rfl (fun V hV K hK => ?_) AllDyn.nil)
                          rw [if_pos (by rfl)]
                          refine wp_value (.slice (some ⟨V.heap.size, 0, none⟩) 1 1) (V.alloc (.cells #[.string (strOfNums x.b)] 9)) (by first | (go_simp; done) | (go_simp; rfl)) ?_
                          have hb := below_alloc V (.cells #[.string (strOfNums x.b)] 9)
                          have hc10 : (V.alloc (.cells #[.string (strOfNums x.b)] 9)).cell? ⟨V.heap.size, 0, none⟩ = some (.string (strOfNums x.b)) := by simp
                          obtain ⟨b10, Hb10⟩ : ∃ z, Hid (z = V.heap.size) := ⟨_, rfl⟩
                          rw [← Hb10.out] at hc10 ⊢
                          refine hK.out (fun W => Bl w6 W ∧ OwG 9 W w6.heap.size p6 tt.r.recs.length c6 (strs tt.r.recs) ∧ W.cell? ⟨b10, 0, none⟩ = some (.string (strOfNums x.b))) _ _ (fun _ _ h hb => ⟨Bl.stays w6 _ _ h.1 hb, h.2.1.below hb, cell_below hb h.2.2⟩) (fun _ _ h => h.1) ⟨Bl.stays w6 _ _ hV.1 hb, hV.2.below hb, hc10⟩ ?_
                          clear hK K hV hb hc10
                          (try simp only [Act.put, List.getElem_toArray, List.getElem_cons_zero, List.getElem_cons_succ, List.setIfInBounds_toArray, List.set_cons_zero, List.set_cons_succ])
                          refine wpDyn_ready (rs := [11]) (by kernel_rfl) (by simp) (AllDyn.cons rfl (fun V hV K hK => ?_) AllDyn.nil)
                          rw [if_pos (by rfl)]
                          obtain ⟨p11, c11, W11, hrun, hB11, hO11⟩ := app_clone hV.1 hV.2.1 hV.2.2 (by have := HRF.out; omega) 49
                          refine wp_append6 (.tmp 83) (.tmp 87) 49 rfl _ _ _ W11 rfl rfl hrun ?_
                          refine hK.out (fun W => Bl w6 W ∧ OwG 9 W w6.heap.size p11 (tt.r.recs.length + 1) c11 (strs (tt.r.recs ++ [x.b]))) _ _ (fun _ _ h hb => ⟨Bl.stays w6 _ _ h.1 hb, h.2.below hb⟩) (fun _ _ h => h.1) ⟨hB11, hO11⟩ ?_
                          clear hK K hV hrun hB11 hO11
                          (try simp only [Act.put, List.getElem_toArray, List.getElem_cons_zero, List.getElem_cons_succ, List.setIfInBounds_toArray, List.set_cons_zero, List.set_cons_succ])
                          refine wpDyn_ready (rs := [12]) (by kernel_rfl) (by simp) (AllDyn.cons rfl (fun V hV K hK => ?_) AllDyn.nil)
                          rw [if_pos (by rfl)]
                          refine wp_value (.pointer (some ⟨br, or_ + nk, none⟩)) V (by first | (go_simp; done) | (go_simp; rfl) | (go_simp; intro hx; exfalso; omega)) ?_
                          refine hK.out (fun W => Bl w6 W ∧ OwG 9 W w6.heap.size p11 (tt.r.recs.length + 1) c11 (strs (tt.r.recs ++ [x.b]))) _ _ (fun _ _ h hb => ⟨Bl.stays w6 _ _ h.1 hb, h.2.below hb⟩) (fun _ _ h => h.1) hV ?_
                          clear hK K hV
                          (try simp only [Act.put, List.getElem_toArray, List.getElem_cons_zero, List.getElem_cons_succ, List.setIfInBounds_toArray, List.set_cons_zero, List.set_cons_succ])
                          refine wpDyn_ready (rs := [13]) (by kernel_rfl) (by simp) (AllDyn.cons rfl (fun V hV K hK => ?_) AllDyn.nil)
                          rw [if_pos (by rfl)]
                          have elen : (tt.r.recs ++ [x.b]).length = tt.r.recs.length + 1 := by rw [List.length_append]; rfl
                          obtain ⟨⟨u13, hu13⟩, hf13, hk13⟩ := store_reel (p11 := p11) (c11 := c11) (R := tt.r.recs ++ [x.b]) HK6.out HPR.out hV.1 (by rw [elen]; exact hV.2)
                          rw [elen] at hk13
                          refine wp_store_one _ _ _ rfl br (or_ + nk) (.slice p11 (tt.r.recs.length + 1) c11) rfl rfl u13 rfl rfl sizeL6 hu13 hf13 ?_
                          refine hK.out (fun W => K13 w6 W ow6 L nk pb cb us pr cr vs p11 c11 (tt.r.recs ++ [x.b])) _ _ (fun _ _ h hb => h.below hb) (no_leanT (by kernel_rfl)) hk13 ?_
                          clear hK K hV hu13 hf13 hk13 elen
                          (try simp only [Act.put, List.getElem_toArray, List.getElem_cons_zero, List.getElem_cons_succ, List.setIfInBounds_toArray, List.set_cons_zero, List.set_cons_succ])
                          refine wpDyn_done (by kernel_rfl) (fun W2 hW2 => ?_) _
                          have HW : Hid (K13 w6 W2 ow6 L nk pb cb us pr cr vs p11 c11 (tt.r.recs ++ [x.b])) := hW2
                          clear hW2
                          have HK2 : Hid (KR W2 (lawO ow6 w6.heap.size W2.heap.size) L nk pb cb us pr cr (vs.set nk (.slice p11 (tt.r.recs ++ [x.b]).length c11)) p11 c11 (tt.r.recs ++ [x.b])) := HK6.out.put HL6.out HW.out
                          have HT2 : Hid (TSx W2 L 0 g gt (lawO ow6 w6.heap.size W2.heap.size) (ptT mm tt x.b).2.1 (ptT mm tt x.b).2.2) := HT6.out.law2 (by decide) HW.out.ch
                          have HB2 : Hid (Below L w3 W2) := HB6.out.trans (HW.out.ch.lowL HL6.out (fun k hk e => by have h9 := (HT6.out.old2 hk).1; have h8 : ow6 k = 0 := (HT6.out.old hk).1; rw [h8] at e; cases e))
                          have hAx2 := HAX6.out.1.ch HW.out.ch HAX6.out.2
                          have cx0 := hAx2.cell 0
                          have hD2 := HT2.out.ds
                          have HLB : Hid (us.getD nk [] = tt.r.base) := HI.out.lb
                          have HRF : Hid ((tt.r.recs ++ [x.b]).length ≤ 1099511627776) := by have := HRF.out; rw [List.length_append]; show tt.r.recs.length + 1 ≤ _; omega
                          obtain ⟨vs2, Hvs2⟩ : ∃ z, Hid (z = vs.set nk (.slice p11 (tt.r.recs ++ [x.b]).length c11)) := ⟨_, rfl⟩
                          rw [← Hvs2.out] at HK2
                          rw [← HPR.out]
                          clear hAx2
                          obtain ⟨dz, hDz⟩ := hD2
                          have hRe := reopened_any W2 L g (lawO ow6 w6.heap.size W2.heap.size) dz _ hDz tt.r.base (tt.r.recs ++ [x.b]) kk HG.out
                          have HOG : Hid ((lawO ow6 w6.heap.size W2.heap.size) g = 0 ∧ L ≤ W2.heap.size ∧ ∀ k, k < L → Fg2 (lawO ow6 w6.heap.size W2.heap.size) g k) := ⟨hDz.da.og, hDz.lw, fun k hk => ⟨Or.inl (hDz.low k hk), by have := hDz.lg; omega⟩⟩
                          clear hDz
                          go_wp2_with fail
                          refine hRe.mono ?_
                          rintro e5 w10 ⟨pz, iz, cq, rfl, hi1, hi2, hrv, hch⟩
                          clear hRe
                          have hK10 := (HK2.out).op HOG.out.1 hch (fun _ _ => rfl)
                          have hB10 : Below L W2 w10 := hch.lowL HOG.out.2.1 (fun k hk e => e (HOG.out.2.2 k hk))
                          have HB10 : Hid (Below L w3 w10) := (HB2.out).trans hB10
                          have HL10 : Hid (L ≤ w10.heap.size) := Nat.le_trans HOG.out.2.1 hch.size
                          obtain ⟨bx, Hbx⟩ : ∃ z, Hid (z = w10.heap.size) := ⟨_, rfl⟩
                          have hba := below_alloc w10 (.cells #[.pointer none, .int .i64 0, .string (strOfNums tt.r.base), .slice pz iz cq, .int .i64 0, .int .i64 0] 59)
                          have hAt := At.new 59 w10 #[.pointer none, .int .i64 0, .string (strOfNums tt.r.base), .slice pz iz cq, .int .i64 0, .int .i64 0]
                          rw [← Hbx.out] at hAt
                          obtain ⟨w11, Hw11⟩ : ∃ z, Hid (z = w10.alloc (.cells #[.pointer none, .int .i64 0, .string (strOfNums tt.r.base), .slice pz iz cq, .int .i64 0, .int .i64 0] 59)) := ⟨_, rfl⟩
                          rw [← Hw11.out] at hba hAt
                          have hK11 := hK10.below hba
                          have HB11 : Hid (Below L w3 w11) := HB10.out.trans (hba.mono HL10.out)
                          have HL11 : Hid (L ≤ w11.heap.size) := Nat.le_trans HL10.out hba.size
                          obtain ⟨sB, HsB⟩ : ∃ z, Hid (z = strOfNums tt.r.base) := ⟨_, rfl⟩
                          have HCb : Hid (w11.cell? ⟨bx, 2, none⟩ = some (.string sB)) := by rw [HsB.out]; exact hAt.cell 2
                          have HCl : Hid (w11.cell? ⟨bx, 3, none⟩ = some (.slice pz iz cq)) := hAt.cell 3
                          have HIJ : Hid (kk ≤ iz ∧ iz ≤ ((tt.r.recs ++ [x.b])).length) := ⟨hi1, hi2⟩
                          have HRV : Hid (∀ V, Bl w11 V → RdV V pz iz cq (txt (txb (((tt.r.recs ++ [x.b])).take iz)))) := fun V h => (hrv.below hba).below (Bl.out' h)
                          have HK11 : Hid (KR w11 (lawO ow6 w6.heap.size W2.heap.size) L nk pb cb us pr cr vs2 p11 c11 (tt.r.recs ++ [x.b])) := hK11
                          clear hK10 hK11 hB10 hch hrv hi1 hi2 hba hAt HB10 HL10 HOG
                          obtain ⟨bb, ob, hpb, hcb⟩ := HK11.out.bs.rd.cells (Nat.succ_pos _)
                          obtain ⟨br, or_, hpr, hcr⟩ := HK11.out.rs.rd.cells (Nat.succ_pos _)
                          have hcb1 := hcb nk (Nat.lt_succ_self _)
                          have hcr1 := hcr nk (Nat.lt_succ_self _)
                          rw [HK11.out.lv] at hcr1
                          rw [kstrs_getD (by have := HK11.out.bs.len; rw [kstrs_len] at this; omega), HLB.out] at hcb1
                          have HBb : Hid (w11.cell? ⟨bb, ob + nk, none⟩ = some (.string sB)) := by rw [HsB.out]; exact hcb1
                          have HRr : Hid (w11.cell? ⟨br, or_ + nk, none⟩ = some (.slice p11 ((tt.r.recs ++ [x.b])).length c11)) := hcr1
                          have HLV : Hid (∀ V, Bl w11 V → RdV V p11 ((tt.r.recs ++ [x.b])).length c11 (txt (txb (tt.r.recs ++ [x.b])))) := fun V h => by rw [← strs_txb]; exact HK11.out.lr.rd.below (Bl.out' h)
                          have HPB : Hid (pb = some ⟨bb, ob, none⟩ ∧ pr = some ⟨br, or_, none⟩) := ⟨hpb, hpr⟩
                          rw [HPB.out.1, HPB.out.2]
                          have hnk1 : (nk : Int) < ((nk + 1 : Nat) : Int) := by omega
                          have hnk60 : nk ≤ 100 := HNK.out
                          obtain ⟨nR, HnR⟩ : ∃ z, Hid (z = ((tt.r.recs ++ [x.b])).length) := ⟨_, rfl⟩
                          rw [← HnR.out] at HRr
                          clear hcb hcr hcb1 hcr1 hpb hpr
                          go_wp2_with fail
                          rw [← Hw11.out, ← HsB.out, ← Hbx.out]
                          have hS8 : Bl w11 w11.drew := (Below.refl _ _).drew
                          refine wp_region_dyn [0, 1, 2, 3, 4, 5, 6, 7, 8, 9, 10, 11, 12, 13, 14, 15, 16, 17, 18, 20, 21, 23, 24] (Bl w11) (Bl w11) (by kernel_rfl) hS8 ?_
                          clear hS8
                          refine wpDyn_take ?vT20x0 (Bl.stays w11) (fun _ h => h) (i := 0) rfl (by kernel_rfl) (by kernel_rfl) (by kernel_rfl) (by kernel_rfl) (by kernel_rfl) (fun _ _ _ h => h) (Gives.value (by rfl) ?yT20x0) ?rT20x0
                          case yT20x0 => (intro w' hSw; go_simp; try with_reducible rfl)
                          (try simp only [Act.put, List.getElem_toArray, List.getElem_cons_zero, List.getElem_cons_succ, List.setIfInBounds_toArray, List.set_cons_zero, List.set_cons_succ])
                          refine wpDyn_take ?vT20x1 (Bl.stays w11) (fun _ h => h) (i := 1) rfl (by kernel_rfl) (by kernel_rfl) (by kernel_rfl) (by kernel_rfl) (by kernel_rfl) (fun _ _ _ h => h) (Gives.value (by rfl) ?yT20x1) ?rT20x1
                          case yT20x1 => (intro w' hSw; go_simp; try with_reducible rfl)
                          (try simp only [Act.put, List.getElem_toArray, List.getElem_cons_zero, List.getElem_cons_succ, List.setIfInBounds_toArray, List.set_cons_zero, List.set_cons_succ])
                          refine wpDyn_take ?vT20x2 (Bl.stays w11) (fun _ h => h) (i := 2) rfl (by kernel_rfl) (by kernel_rfl) (by kernel_rfl) (by kernel_rfl) (by kernel_rfl) (fun _ _ _ h => h) (Gives.value (by rfl) ?yT20x2) ?rT20x2
                          case yT20x2 => (intro w' hSw; go_simp; try with_reducible rfl)
                          (try simp only [Act.put, List.getElem_toArray, List.getElem_cons_zero, List.getElem_cons_succ, List.setIfInBounds_toArray, List.set_cons_zero, List.set_cons_succ])
                          refine wpDyn_take ?vT20x3 (Bl.stays w11) (fun _ h => h) (i := 3) rfl (by kernel_rfl) (by kernel_rfl) (by kernel_rfl) (by kernel_rfl) (by kernel_rfl) (fun _ _ _ h => h) (Gives.value (by rfl) ?yT20x3) ?rT20x3
                          case yT20x3 => (intro w' hSw; go_simp; try with_reducible rfl)
                          (try simp only [Act.put, List.getElem_toArray, List.getElem_cons_zero, List.getElem_cons_succ, List.setIfInBounds_toArray, List.set_cons_zero, List.set_cons_succ])
                          refine wpDyn_take ?vT20x4 (Bl.stays w11) (fun _ h => h) (i := 4) rfl (by kernel_rfl) (by kernel_rfl) (by kernel_rfl) (by kernel_rfl) (by kernel_rfl) (fun _ _ _ h => h) (Gives.value (by rfl) ?yT20x4) ?rT20x4
                          case yT20x4 => (intro w' hSw; have hcl := cell_below (Bl.out' hSw) HCb.out; clear hSw; go_simp; try with_reducible rfl)
                          (try simp only [Act.put, List.getElem_toArray, List.getElem_cons_zero, List.getElem_cons_succ, List.setIfInBounds_toArray, List.set_cons_zero, List.set_cons_succ])
                          refine wpDyn_take ?vT20x5 (Bl.stays w11) (fun _ h => h) (i := 5) rfl (by kernel_rfl) (by kernel_rfl) (by kernel_rfl) (by kernel_rfl) (by kernel_rfl) (fun _ _ _ h => h) (Gives.value (by rfl) ?yT20x5) ?rT20x5
                          case yT20x5 => (intro w' hSw; go_simp; try with_reducible rfl)
                          (try simp only [Act.put, List.getElem_toArray, List.getElem_cons_zero, List.getElem_cons_succ, List.setIfInBounds_toArray, List.set_cons_zero, List.set_cons_succ])
                          refine wpDyn_take ?vT20x6 (Bl.stays w11) (fun _ h => h) (i := 6) rfl (by kernel_rfl) (by kernel_rfl) (by kernel_rfl) (by kernel_rfl) (by kernel_rfl) (fun _ _ _ h => h) (Gives.value (by rfl) ?yT20x6) ?rT20x6
                          case yT20x6 => (intro w' hSw; go_simp; try with_reducible rfl)
                          (try simp only [Act.put, List.getElem_toArray, List.getElem_cons_zero, List.getElem_cons_succ, List.setIfInBounds_toArray, List.set_cons_zero, List.set_cons_succ])
                          refine wpDyn_take (.pointer (some ⟨bb, ob + nk, none⟩)) (Bl.stays w11) (fun _ h => h) (i := 7) rfl (by kernel_rfl) (by kernel_rfl) (by kernel_rfl) (by kernel_rfl) (by kernel_rfl) (fun _ _ _ h => h) (Gives.value (by rfl) ?yT20x7) ?rT20x7
                          case yT20x7 => (intro w' hSw; go_simp; try (intro hx; exfalso; omega))
                          (try simp only [Act.put, List.getElem_toArray, List.getElem_cons_zero, List.getElem_cons_succ, List.setIfInBounds_toArray, List.set_cons_zero, List.set_cons_succ])
                          refine wpDyn_take ?vT20x8 (Bl.stays w11) (fun _ h => h) (i := 8) rfl (by kernel_rfl) (by kernel_rfl) (by kernel_rfl) (by kernel_rfl) (by kernel_rfl) (fun _ _ _ h => h) (Gives.value (by rfl) ?yT20x8) ?rT20x8
                          case yT20x8 => (intro w' hSw; have hcl := cell_below (Bl.out' hSw) HBb.out; clear hSw; go_simp; try with_reducible rfl)
                          (try simp only [Act.put, List.getElem_toArray, List.getElem_cons_zero, List.getElem_cons_succ, List.setIfInBounds_toArray, List.set_cons_zero, List.set_cons_succ])
                          refine wpDyn_take ?vT20x9 (Bl.stays w11) (fun _ h => h) (i := 9) rfl (by kernel_rfl) (by kernel_rfl) (by kernel_rfl) (by kernel_rfl) (by kernel_rfl) (fun _ _ _ h => h) (Gives.value (by rfl) ?yT20x9) ?rT20x9
                          case yT20x9 => (intro w' hSw; go_simp; try with_reducible rfl)
                          (try simp only [Act.put, List.getElem_toArray, List.getElem_cons_zero, List.getElem_cons_succ, List.setIfInBounds_toArray, List.set_cons_zero, List.set_cons_succ])
                          refine wpDyn_take ?vT20x10 (Bl.stays w11) (fun _ h => h) (i := 10) rfl (by kernel_rfl) (by kernel_rfl) (by kernel_rfl) (by kernel_rfl) (by kernel_rfl) (fun _ _ _ h => h) (Gives.value (by rfl) ?yT20x10) ?rT20x10
                          case yT20x10 => (intro w' hSw; go_simp; try with_reducible rfl)
                          (try simp only [Act.put, List.getElem_toArray, List.getElem_cons_zero, List.getElem_cons_succ, List.setIfInBounds_toArray, List.set_cons_zero, List.set_cons_succ])
                          refine wpDyn_take ?vT20x11 (Bl.stays w11) (fun _ h => h) (i := 11) rfl (by kernel_rfl) (by kernel_rfl) (by kernel_rfl) (by kernel_rfl) (by kernel_rfl) (fun _ _ _ h => h) (Gives.value (by rfl) ?yT20x11) ?rT20x11
                          case yT20x11 => (intro w' hSw; go_simp; try with_reducible rfl)
                          (try simp only [Act.put, List.getElem_toArray, List.getElem_cons_zero, List.getElem_cons_succ, List.setIfInBounds_toArray, List.set_cons_zero, List.set_cons_succ])
                          refine wpDyn_take ?vT20x12 (Bl.stays w11) (fun _ h => h) (i := 12) rfl (by kernel_rfl) (by kernel_rfl) (by kernel_rfl) (by kernel_rfl) (by kernel_rfl) (fun _ _ _ h => h) (Gives.value (by rfl) ?yT20x12) ?rT20x12
                          case yT20x12 => (intro w' hSw; go_simp; try with_reducible rfl)
                          (try simp only [Act.put, List.getElem_toArray, List.getElem_cons_zero, List.getElem_cons_succ, List.setIfInBounds_toArray, List.set_cons_zero, List.set_cons_succ])
                          refine wpDyn_take ?vT20x13 (Bl.stays w11) (fun _ h => h) (i := 13) rfl (by kernel_rfl) (by kernel_rfl) (by kernel_rfl) (by kernel_rfl) (by kernel_rfl) (fun _ _ _ h => h) (Gives.value (by rfl) ?yT20x13) ?rT20x13
                          case yT20x13 => (intro w' hSw; have hcl := cell_below (Bl.out' hSw) HCl.out; clear hSw; go_simp; try with_reducible rfl)
                          (try simp only [Act.put, List.getElem_toArray, List.getElem_cons_zero, List.getElem_cons_succ, List.setIfInBounds_toArray, List.set_cons_zero, List.set_cons_succ])
                          refine wpDyn_take ?vT20x14 (Bl.stays w11) (fun _ h => h) (i := 14) rfl (by kernel_rfl) (by kernel_rfl) (by kernel_rfl) (by kernel_rfl) (by kernel_rfl) (fun _ _ _ h => h) (Gives.value (by rfl) ?yT20x14) ?rT20x14
                          case yT20x14 => (intro w' hSw; go_simp; try with_reducible rfl)
                          (try simp only [Act.put, List.getElem_toArray, List.getElem_cons_zero, List.getElem_cons_succ, List.setIfInBounds_toArray, List.set_cons_zero, List.set_cons_succ])
                          refine wpDyn_take ?vT20x15 (Bl.stays w11) (fun _ h => h) (i := 15) rfl (by kernel_rfl) (by kernel_rfl) (by kernel_rfl) (by kernel_rfl) (by kernel_rfl) (fun _ _ _ h => h) (Gives.value (by rfl) ?yT20x15) ?rT20x15
                          case yT20x15 => (intro w' hSw; go_simp; try with_reducible rfl)
                          (try simp only [Act.put, List.getElem_toArray, List.getElem_cons_zero, List.getElem_cons_succ, List.setIfInBounds_toArray, List.set_cons_zero, List.set_cons_succ])
                          refine wpDyn_take (.pointer (some ⟨br, or_ + nk, none⟩)) (Bl.stays w11) (fun _ h => h) (i := 16) rfl (by kernel_rfl) (by kernel_rfl) (by kernel_rfl) (by kernel_rfl) (by kernel_rfl) (fun _ _ _ h => h) (Gives.value (by rfl) ?yT20x16) ?rT20x16
                          case yT20x16 => (intro w' hSw; go_simp; try (intro hx; exfalso; omega))
                          (try simp only [Act.put, List.getElem_toArray, List.getElem_cons_zero, List.getElem_cons_succ, List.setIfInBounds_toArray, List.set_cons_zero, List.set_cons_succ])
                          refine wpDyn_take ?vT20x17 (Bl.stays w11) (fun _ h => h) (i := 17) rfl (by kernel_rfl) (by kernel_rfl) (by kernel_rfl) (by kernel_rfl) (by kernel_rfl) (fun _ _ _ h => h) (Gives.value (by rfl) ?yT20x17) ?rT20x17
                          case yT20x17 => (intro w' hSw; have hcl := cell_below (Bl.out' hSw) HRr.out; clear hSw; go_simp; try with_reducible rfl)
                          (try simp only [Act.put, List.getElem_toArray, List.getElem_cons_zero, List.getElem_cons_succ, List.setIfInBounds_toArray, List.set_cons_zero, List.set_cons_succ])
                          refine wpDyn_take ?vT20x18 (Bl.stays w11) (fun _ h => h) (i := 18) rfl (by kernel_rfl) (by kernel_rfl) (by kernel_rfl) (by kernel_rfl) (by kernel_rfl) (fun _ _ _ h => h) (Gives.value (by rfl) ?yT20x18) ?rT20x18
                          case yT20x18 => (intro w' hSw; go_simp; try with_reducible rfl)
                          (try simp only [Act.put, List.getElem_toArray, List.getElem_cons_zero, List.getElem_cons_succ, List.setIfInBounds_toArray, List.set_cons_zero, List.set_cons_succ])
                          refine wpDyn_ready (rs := [19]) (by kernel_rfl) (by simp) (AllDyn.cons rfl (fun V hV K hK => ?_) AllDyn.nil)
                          rw [if_pos (by rfl)]
                          have hC := between_any pz p11 iz cq nR c11 kk (txb (tt.r.recs ++ [x.b])) V (by have h := HRV.out V hV; unfold txb at h ⊢; rw [← List.map_take]; exact h) (by rw [HnR.out]; exact HLV.out V hV) HIJ.out.1 (by rw [HnR.out]; exact HIJ.out.2) (by rw [HnR.out]; exact HRF.out)
                          refine wp_enterX 27 #[.slice pz iz cq, .slice p11 nR c11, .int .i64 kk] (by first | (go_simp; done) | (go_simp; rfl)) (fun v V' => v = .bool true ∧ Below V.heap.size V V') (hC.mono fun e V' ⟨h1, h2⟩ => ⟨_, h1, rfl, h2⟩) ?_
                          rintro v V1 ⟨rfl, hb⟩
                          refine hK.out (Bl w11) _ _ (Bl.stays w11) (fun _ _ h => h) (Bl.stays w11 _ _ hV hb) ?_
                          clear hK K hV hC hb
                          (try simp only [Act.put, List.getElem_toArray, List.getElem_cons_zero, List.getElem_cons_succ, List.setIfInBounds_toArray, List.set_cons_zero, List.set_cons_succ])
                          refine wpDyn_take ?vT20x20 (Bl.stays w11) (fun _ h => h) (i := 20) rfl (by kernel_rfl) (by kernel_rfl) (by kernel_rfl) (by kernel_rfl) (by kernel_rfl) (fun _ _ _ h => h) (Gives.value (by rfl) ?yT20x20) ?rT20x20
                          case yT20x20 => (intro w' hSw; go_simp; try with_reducible rfl)
                          (try simp only [Act.put, List.getElem_toArray, List.getElem_cons_zero, List.getElem_cons_succ, List.setIfInBounds_toArray, List.set_cons_zero, List.set_cons_succ])
                          refine wpDyn_take ?vT20x21 (Bl.stays w11) (fun _ h => h) (i := 21) rfl (by kernel_rfl) (by kernel_rfl) (by kernel_rfl) (by kernel_rfl) (by kernel_rfl) (fun _ _ _ h => h) (Gives.value (by rfl) ?yT20x21) ?rT20x21
                          case yT20x21 => (intro w' hSw; go_simp; try with_reducible rfl)
                          (try simp only [Act.put, List.getElem_toArray, List.getElem_cons_zero, List.getElem_cons_succ, List.setIfInBounds_toArray, List.set_cons_zero, List.set_cons_succ])
                          refine wpDyn_ready (rs := [22]) (by kernel_rfl) (by simp) (AllDyn.cons rfl (fun V hV K hK => ?_) AllDyn.nil)
                          rw [if_pos (by rfl)]
                          have hC := awake_any V
                          refine wp_enterX 8 #[] (by first | (go_simp; done) | (go_simp; rfl)) (fun v V' => v = .bool true ∧ Below V.heap.size V V') (hC.mono fun e V' ⟨h1, h2⟩ => ⟨_, h1, rfl, h2⟩) ?_
                          rintro v V1 ⟨rfl, hb⟩
                          refine hK.out (Bl w11) _ _ (Bl.stays w11) (fun _ _ h => h) (Bl.stays w11 _ _ hV hb) ?_
                          clear hK K hV hC hb
                          (try simp only [Act.put, List.getElem_toArray, List.getElem_cons_zero, List.getElem_cons_succ, List.setIfInBounds_toArray, List.set_cons_zero, List.set_cons_succ])
                          refine wpDyn_take ?vT20x23 (Bl.stays w11) (fun _ h => h) (i := 23) rfl (by kernel_rfl) (by kernel_rfl) (by kernel_rfl) (by kernel_rfl) (by kernel_rfl) (fun _ _ _ h => h) (Gives.value (by rfl) ?yT20x23) ?rT20x23
                          case yT20x23 => (intro w' hSw; go_simp; try with_reducible rfl)
                          (try simp only [Act.put, List.getElem_toArray, List.getElem_cons_zero, List.getElem_cons_succ, List.setIfInBounds_toArray, List.set_cons_zero, List.set_cons_succ])
                          refine wpDyn_take ?vT20x24 (Bl.stays w11) (fun _ h => h) (i := 24) rfl (by kernel_rfl) (by kernel_rfl) (by kernel_rfl) (by kernel_rfl) (by kernel_rfl) (fun _ _ _ h => h) (Gives.value (by rfl) ?yT20x24) ?rT20x24
                          case yT20x24 => (intro w' hSw; go_simp; try with_reducible rfl)
                          (try simp only [Act.put, List.getElem_toArray, List.getElem_cons_zero, List.getElem_cons_succ, List.setIfInBounds_toArray, List.set_cons_zero, List.set_cons_succ])
                          refine wpDyn_done (by kernel_rfl) (fun W2 hW2 => ?_) _
                          have HB99 : Hid (Below H w W2) := HB3.out.trans ((HB11.out.trans ((Bl.out' hW2).mono HL11.out)).mono HHL.out)
                          clear hW2
                          go_wp2_with fail
                          go_ret
                          exact ⟨rfl, by have h := HB99.out; rw [HH.out] at h; exact h⟩
                      · skip
                        as_aux_lemma =>
                          rw [if_pos (by rfl)]
                          refine wp_value (.slice (some ⟨V.heap.size, 0, none⟩) 1 1) (V.alloc (.cells #[.string (strOfNums x.b)] 9)) (by first | (go_simp; done) | (go_simp; rfl)) ?_
                          have hb := below_alloc V (.cells #[.string (strOfNums x.b)] 9)
                          have hc10 : (V.alloc (.cells #[.string (strOfNums x.b)] 9)).cell? ⟨V.heap.size, 0, none⟩ = some (.string (strOfNums x.b)) := by simp
                          obtain ⟨b10, Hb10⟩ : ∃ z, Hid (z = V.heap.size) := ⟨_, rfl⟩
                          rw [← Hb10.out] at hc10 ⊢
                          refine hK.out (fun W => Bl w6 W ∧ W.cell? ⟨b10, 0, none⟩ = some (.string (strOfNums x.b))) _ _ (fun _ _ h hb => ⟨Bl.stays w6 _ _ h.1 hb, cell_below hb h.2⟩) (fun _ _ h => h.1) ⟨Bl.stays w6 _ _ hV hb, hc10⟩ ?_
                          clear hK K hV hb hc10
                          (try simp only [Act.put, List.getElem_toArray, List.getElem_cons_zero, List.getElem_cons_succ, List.setIfInBounds_toArray, List.set_cons_zero, List.set_cons_succ])
                          refine wpDyn_ready (rs := [6]) (by kernel_rfl) (by simp) (AllDyn.cons rfl (fun V hV K hK => ?_) AllDyn.nil)
                          rw [if_pos (by rfl)]
                          have hC := cloneS_any pl tt.r.recs.length cl tt.r.recs V (HK6.out.below (Bl.out' hV.1)).lr.rd (by have := HRF.out; omega)
                          have hVs := (Bl.out' hV.1).size
                          refine wp_enterX 24 #[.slice pl tt.r.recs.length cl] (by first | (go_simp; done) | (go_simp; rfl)) (fun v V' => ∃ p' c', v = .slice p' tt.r.recs.length c' ∧ OwG 9 V' w6.heap.size p' tt.r.recs.length c' (strs tt.r.recs) ∧ Below V.heap.size V V') (hC.mono fun e V' ⟨p', c', h1, h2, h3⟩ => ⟨_, h1, p', c', rfl, h2.g.lowerB hVs, h3⟩) ?_
                          rintro v V1 ⟨p6, c6, rfl, hR, hb⟩
                          refine hK.out (fun W => Bl w6 W ∧ OwG 9 W w6.heap.size p6 tt.r.recs.length c6 (strs tt.r.recs) ∧ W.cell? ⟨b10, 0, none⟩ = some (.string (strOfNums x.b))) _ _ (fun _ _ h hb => ⟨Bl.stays w6 _ _ h.1 hb, h.2.1.below hb, cell_below hb h.2.2⟩) (fun _ _ h => h.1) ⟨Bl.stays w6 _ _ hV.1 hb, hR, cell_below hb hV.2⟩ ?_
                          clear hK K hV hC hR hb hVs
                          (try simp only [Act.put, List.getElem_toArray, List.getElem_cons_zero, List.getElem_cons_succ, List.setIfInBounds_toArray, List.set_cons_zero, List.set_cons_succ])
                          refine wpDyn_ready (rs := [11]) (by kernel_rfl) (by simp) (AllDyn.cons rfl (fun V hV K hK => ?_) AllDyn.nil)
                          rw [if_pos (by rfl)]
                          obtain ⟨p11, c11, W11, hrun, hB11, hO11⟩ := app_clone hV.1 hV.2.1 hV.2.2 (by have := HRF.out; omega) 49
                          refine wp_append6 (.tmp 83) (.tmp 87) 49 rfl _ _ _ W11 rfl rfl hrun ?_
                          refine hK.out (fun W => Bl w6 W ∧ OwG 9 W w6.heap.size p11 (tt.r.recs.length + 1) c11 (strs (tt.r.recs ++ [x.b]))) _ _ (fun _ _ h hb => ⟨Bl.stays w6 _ _ h.1 hb, h.2.below hb⟩) (fun _ _ h => h.1) ⟨hB11, hO11⟩ ?_
                          clear hK K hV hrun hB11 hO11
                          (try simp only [Act.put, List.getElem_toArray, List.getElem_cons_zero, List.getElem_cons_succ, List.setIfInBounds_toArray, List.set_cons_zero, List.set_cons_succ])
                          refine wpDyn_ready (rs := [12]) (by kernel_rfl) (by simp) (AllDyn.cons rfl (fun V hV K hK => ?_) AllDyn.nil)
                          rw [if_pos (by rfl)]
                          refine wp_value (.pointer (some ⟨br, or_ + nk, none⟩)) V (by first | (go_simp; done) | (go_simp; rfl) | (go_simp; intro hx; exfalso; omega)) ?_
                          refine hK.out (fun W => Bl w6 W ∧ OwG 9 W w6.heap.size p11 (tt.r.recs.length + 1) c11 (strs (tt.r.recs ++ [x.b]))) _ _ (fun _ _ h hb => ⟨Bl.stays w6 _ _ h.1 hb, h.2.below hb⟩) (fun _ _ h => h.1) hV ?_
                          clear hK K hV
                          (try simp only [Act.put, List.getElem_toArray, List.getElem_cons_zero, List.getElem_cons_succ, List.setIfInBounds_toArray, List.set_cons_zero, List.set_cons_succ])
                          refine wpDyn_ready (rs := [13]) (by kernel_rfl) (by simp) (AllDyn.cons rfl (fun V hV K hK => ?_) AllDyn.nil)
                          rw [if_pos (by rfl)]
                          have elen : (tt.r.recs ++ [x.b]).length = tt.r.recs.length + 1 := by rw [List.length_append]; rfl
                          obtain ⟨⟨u13, hu13⟩, hf13, hk13⟩ := store_reel (p11 := p11) (c11 := c11) (R := tt.r.recs ++ [x.b]) HK6.out HPR.out hV.1 (by rw [elen]; exact hV.2)
                          rw [elen] at hk13
                          refine wp_store_one _ _ _ rfl br (or_ + nk) (.slice p11 (tt.r.recs.length + 1) c11) rfl rfl u13 rfl rfl sizeL6 hu13 hf13 ?_
                          refine hK.out (fun W => K13 w6 W ow6 L nk pb cb us pr cr vs p11 c11 (tt.r.recs ++ [x.b])) _ _ (fun _ _ h hb => h.below hb) (no_leanT (by kernel_rfl)) hk13 ?_
                          clear hK K hV hu13 hf13 hk13 elen
                          (try simp only [Act.put, List.getElem_toArray, List.getElem_cons_zero, List.getElem_cons_succ, List.setIfInBounds_toArray, List.set_cons_zero, List.set_cons_succ])
                          refine wpDyn_done (by kernel_rfl) (fun W2 hW2 => ?_) _
                          have HW : Hid (K13 w6 W2 ow6 L nk pb cb us pr cr vs p11 c11 (tt.r.recs ++ [x.b])) := hW2
                          clear hW2
                          have HK2 : Hid (KR W2 (lawO ow6 w6.heap.size W2.heap.size) L nk pb cb us pr cr (vs.set nk (.slice p11 (tt.r.recs ++ [x.b]).length c11)) p11 c11 (tt.r.recs ++ [x.b])) := HK6.out.put HL6.out HW.out
                          have HT2 : Hid (TSx W2 L 0 g gt (lawO ow6 w6.heap.size W2.heap.size) (ptT mm tt x.b).2.1 (ptT mm tt x.b).2.2) := HT6.out.law2 (by decide) HW.out.ch
                          have HB2 : Hid (Below L w3 W2) := HB6.out.trans (HW.out.ch.lowL HL6.out (fun k hk e => by have h9 := (HT6.out.old2 hk).1; have h8 : ow6 k = 0 := (HT6.out.old hk).1; rw [h8] at e; cases e))
                          have hAx2 := HAX6.out.1.ch HW.out.ch HAX6.out.2
                          have cx0 := hAx2.cell 0
                          have hD2 := HT2.out.ds
                          have HLB : Hid (us.getD nk [] = tt.r.base) := HI.out.lb
                          have HRF : Hid ((tt.r.recs ++ [x.b]).length ≤ 1099511627776) := by have := HRF.out; rw [List.length_append]; show tt.r.recs.length + 1 ≤ _; omega
                          obtain ⟨vs2, Hvs2⟩ : ∃ z, Hid (z = vs.set nk (.slice p11 (tt.r.recs ++ [x.b]).length c11)) := ⟨_, rfl⟩
                          rw [← Hvs2.out] at HK2
                          rw [← HPR.out]
                          clear hAx2
                          obtain ⟨dz, hDz⟩ := hD2
                          have hRe := reopened_any W2 L g (lawO ow6 w6.heap.size W2.heap.size) dz _ hDz tt.r.base (tt.r.recs ++ [x.b]) kk HG.out
                          have HOG : Hid ((lawO ow6 w6.heap.size W2.heap.size) g = 0 ∧ L ≤ W2.heap.size ∧ ∀ k, k < L → Fg2 (lawO ow6 w6.heap.size W2.heap.size) g k) := ⟨hDz.da.og, hDz.lw, fun k hk => ⟨Or.inl (hDz.low k hk), by have := hDz.lg; omega⟩⟩
                          clear hDz
                          go_wp2_with fail
                          refine hRe.mono ?_
                          rintro e5 w10 ⟨pz, iz, cq, rfl, hi1, hi2, hrv, hch⟩
                          clear hRe
                          have hK10 := (HK2.out).op HOG.out.1 hch (fun _ _ => rfl)
                          have hB10 : Below L W2 w10 := hch.lowL HOG.out.2.1 (fun k hk e => e (HOG.out.2.2 k hk))
                          have HB10 : Hid (Below L w3 w10) := (HB2.out).trans hB10
                          have HL10 : Hid (L ≤ w10.heap.size) := Nat.le_trans HOG.out.2.1 hch.size
                          obtain ⟨bx, Hbx⟩ : ∃ z, Hid (z = w10.heap.size) := ⟨_, rfl⟩
                          have hba := below_alloc w10 (.cells #[.pointer none, .int .i64 0, .string (strOfNums tt.r.base), .slice pz iz cq, .int .i64 0, .int .i64 0] 59)
                          have hAt := At.new 59 w10 #[.pointer none, .int .i64 0, .string (strOfNums tt.r.base), .slice pz iz cq, .int .i64 0, .int .i64 0]
                          rw [← Hbx.out] at hAt
                          obtain ⟨w11, Hw11⟩ : ∃ z, Hid (z = w10.alloc (.cells #[.pointer none, .int .i64 0, .string (strOfNums tt.r.base), .slice pz iz cq, .int .i64 0, .int .i64 0] 59)) := ⟨_, rfl⟩
                          rw [← Hw11.out] at hba hAt
                          have hK11 := hK10.below hba
                          have HB11 : Hid (Below L w3 w11) := HB10.out.trans (hba.mono HL10.out)
                          have HL11 : Hid (L ≤ w11.heap.size) := Nat.le_trans HL10.out hba.size
                          obtain ⟨sB, HsB⟩ : ∃ z, Hid (z = strOfNums tt.r.base) := ⟨_, rfl⟩
                          have HCb : Hid (w11.cell? ⟨bx, 2, none⟩ = some (.string sB)) := by rw [HsB.out]; exact hAt.cell 2
                          have HCl : Hid (w11.cell? ⟨bx, 3, none⟩ = some (.slice pz iz cq)) := hAt.cell 3
                          have HIJ : Hid (kk ≤ iz ∧ iz ≤ ((tt.r.recs ++ [x.b])).length) := ⟨hi1, hi2⟩
                          have HRV : Hid (∀ V, Bl w11 V → RdV V pz iz cq (txt (txb (((tt.r.recs ++ [x.b])).take iz)))) := fun V h => (hrv.below hba).below (Bl.out' h)
                          have HK11 : Hid (KR w11 (lawO ow6 w6.heap.size W2.heap.size) L nk pb cb us pr cr vs2 p11 c11 (tt.r.recs ++ [x.b])) := hK11
                          clear hK10 hK11 hB10 hch hrv hi1 hi2 hba hAt HB10 HL10 HOG
                          obtain ⟨bb, ob, hpb, hcb⟩ := HK11.out.bs.rd.cells (Nat.succ_pos _)
                          obtain ⟨br, or_, hpr, hcr⟩ := HK11.out.rs.rd.cells (Nat.succ_pos _)
                          have hcb1 := hcb nk (Nat.lt_succ_self _)
                          have hcr1 := hcr nk (Nat.lt_succ_self _)
                          rw [HK11.out.lv] at hcr1
                          rw [kstrs_getD (by have := HK11.out.bs.len; rw [kstrs_len] at this; omega), HLB.out] at hcb1
                          have HBb : Hid (w11.cell? ⟨bb, ob + nk, none⟩ = some (.string sB)) := by rw [HsB.out]; exact hcb1
                          have HRr : Hid (w11.cell? ⟨br, or_ + nk, none⟩ = some (.slice p11 ((tt.r.recs ++ [x.b])).length c11)) := hcr1
                          have HLV : Hid (∀ V, Bl w11 V → RdV V p11 ((tt.r.recs ++ [x.b])).length c11 (txt (txb (tt.r.recs ++ [x.b])))) := fun V h => by rw [← strs_txb]; exact HK11.out.lr.rd.below (Bl.out' h)
                          have HPB : Hid (pb = some ⟨bb, ob, none⟩ ∧ pr = some ⟨br, or_, none⟩) := ⟨hpb, hpr⟩
                          rw [HPB.out.1, HPB.out.2]
                          have hnk1 : (nk : Int) < ((nk + 1 : Nat) : Int) := by omega
                          have hnk60 : nk ≤ 100 := HNK.out
                          obtain ⟨nR, HnR⟩ : ∃ z, Hid (z = ((tt.r.recs ++ [x.b])).length) := ⟨_, rfl⟩
                          rw [← HnR.out] at HRr
                          clear hcb hcr hcb1 hcr1 hpb hpr
                          go_wp2_with fail
                          rw [← Hw11.out, ← HsB.out, ← Hbx.out]
                          have hS8 : Bl w11 w11.drew := (Below.refl _ _).drew
                          refine wp_region_dyn [0, 1, 2, 3, 4, 5, 6, 7, 8, 9, 10, 11, 12, 13, 14, 15, 16, 17, 18, 20, 21, 23, 24] (Bl w11) (Bl w11) (by kernel_rfl) hS8 ?_
                          clear hS8
                          refine wpDyn_take ?vT23x0 (Bl.stays w11) (fun _ h => h) (i := 0) rfl (by kernel_rfl) (by kernel_rfl) (by kernel_rfl) (by kernel_rfl) (by kernel_rfl) (fun _ _ _ h => h) (Gives.value (by rfl) ?yT23x0) ?rT23x0
                          case yT23x0 => (intro w' hSw; go_simp; try with_reducible rfl)
                          (try simp only [Act.put, List.getElem_toArray, List.getElem_cons_zero, List.getElem_cons_succ, List.setIfInBounds_toArray, List.set_cons_zero, List.set_cons_succ])
                          refine wpDyn_take ?vT23x1 (Bl.stays w11) (fun _ h => h) (i := 1) rfl (by kernel_rfl) (by kernel_rfl) (by kernel_rfl) (by kernel_rfl) (by kernel_rfl) (fun _ _ _ h => h) (Gives.value (by rfl) ?yT23x1) ?rT23x1
                          case yT23x1 => (intro w' hSw; go_simp; try with_reducible rfl)
                          (try simp only [Act.put, List.getElem_toArray, List.getElem_cons_zero, List.getElem_cons_succ, List.setIfInBounds_toArray, List.set_cons_zero, List.set_cons_succ])
                          refine wpDyn_take ?vT23x2 (Bl.stays w11) (fun _ h => h) (i := 2) rfl (by kernel_rfl) (by kernel_rfl) (by kernel_rfl) (by kernel_rfl) (by kernel_rfl) (fun _ _ _ h => h) (Gives.value (by rfl) ?yT23x2) ?rT23x2
                          case yT23x2 => (intro w' hSw; go_simp; try with_reducible rfl)
                          (try simp only [Act.put, List.getElem_toArray, List.getElem_cons_zero, List.getElem_cons_succ, List.setIfInBounds_toArray, List.set_cons_zero, List.set_cons_succ])
                          refine wpDyn_take ?vT23x3 (Bl.stays w11) (fun _ h => h) (i := 3) rfl (by kernel_rfl) (by kernel_rfl) (by kernel_rfl) (by kernel_rfl) (by kernel_rfl) (fun _ _ _ h => h) (Gives.value (by rfl) ?yT23x3) ?rT23x3
                          case yT23x3 => (intro w' hSw; go_simp; try with_reducible rfl)
                          (try simp only [Act.put, List.getElem_toArray, List.getElem_cons_zero, List.getElem_cons_succ, List.setIfInBounds_toArray, List.set_cons_zero, List.set_cons_succ])
                          refine wpDyn_take ?vT23x4 (Bl.stays w11) (fun _ h => h) (i := 4) rfl (by kernel_rfl) (by kernel_rfl) (by kernel_rfl) (by kernel_rfl) (by kernel_rfl) (fun _ _ _ h => h) (Gives.value (by rfl) ?yT23x4) ?rT23x4
                          case yT23x4 => (intro w' hSw; have hcl := cell_below (Bl.out' hSw) HCb.out; clear hSw; go_simp; try with_reducible rfl)
                          (try simp only [Act.put, List.getElem_toArray, List.getElem_cons_zero, List.getElem_cons_succ, List.setIfInBounds_toArray, List.set_cons_zero, List.set_cons_succ])
                          refine wpDyn_take ?vT23x5 (Bl.stays w11) (fun _ h => h) (i := 5) rfl (by kernel_rfl) (by kernel_rfl) (by kernel_rfl) (by kernel_rfl) (by kernel_rfl) (fun _ _ _ h => h) (Gives.value (by rfl) ?yT23x5) ?rT23x5
                          case yT23x5 => (intro w' hSw; go_simp; try with_reducible rfl)
                          (try simp only [Act.put, List.getElem_toArray, List.getElem_cons_zero, List.getElem_cons_succ, List.setIfInBounds_toArray, List.set_cons_zero, List.set_cons_succ])
                          refine wpDyn_take ?vT23x6 (Bl.stays w11) (fun _ h => h) (i := 6) rfl (by kernel_rfl) (by kernel_rfl) (by kernel_rfl) (by kernel_rfl) (by kernel_rfl) (fun _ _ _ h => h) (Gives.value (by rfl) ?yT23x6) ?rT23x6
                          case yT23x6 => (intro w' hSw; go_simp; try with_reducible rfl)
                          (try simp only [Act.put, List.getElem_toArray, List.getElem_cons_zero, List.getElem_cons_succ, List.setIfInBounds_toArray, List.set_cons_zero, List.set_cons_succ])
                          refine wpDyn_take (.pointer (some ⟨bb, ob + nk, none⟩)) (Bl.stays w11) (fun _ h => h) (i := 7) rfl (by kernel_rfl) (by kernel_rfl) (by kernel_rfl) (by kernel_rfl) (by kernel_rfl) (fun _ _ _ h => h) (Gives.value (by rfl) ?yT23x7) ?rT23x7
                          case yT23x7 => (intro w' hSw; go_simp; try (intro hx; exfalso; omega))
                          (try simp only [Act.put, List.getElem_toArray, List.getElem_cons_zero, List.getElem_cons_succ, List.setIfInBounds_toArray, List.set_cons_zero, List.set_cons_succ])
                          refine wpDyn_take ?vT23x8 (Bl.stays w11) (fun _ h => h) (i := 8) rfl (by kernel_rfl) (by kernel_rfl) (by kernel_rfl) (by kernel_rfl) (by kernel_rfl) (fun _ _ _ h => h) (Gives.value (by rfl) ?yT23x8) ?rT23x8
                          case yT23x8 => (intro w' hSw; have hcl := cell_below (Bl.out' hSw) HBb.out; clear hSw; go_simp; try with_reducible rfl)
                          (try simp only [Act.put, List.getElem_toArray, List.getElem_cons_zero, List.getElem_cons_succ, List.setIfInBounds_toArray, List.set_cons_zero, List.set_cons_succ])
                          refine wpDyn_take ?vT23x9 (Bl.stays w11) (fun _ h => h) (i := 9) rfl (by kernel_rfl) (by kernel_rfl) (by kernel_rfl) (by kernel_rfl) (by kernel_rfl) (fun _ _ _ h => h) (Gives.value (by rfl) ?yT23x9) ?rT23x9
                          case yT23x9 => (intro w' hSw; go_simp; try with_reducible rfl)
                          (try simp only [Act.put, List.getElem_toArray, List.getElem_cons_zero, List.getElem_cons_succ, List.setIfInBounds_toArray, List.set_cons_zero, List.set_cons_succ])
                          refine wpDyn_take ?vT23x10 (Bl.stays w11) (fun _ h => h) (i := 10) rfl (by kernel_rfl) (by kernel_rfl) (by kernel_rfl) (by kernel_rfl) (by kernel_rfl) (fun _ _ _ h => h) (Gives.value (by rfl) ?yT23x10) ?rT23x10
                          case yT23x10 => (intro w' hSw; go_simp; try with_reducible rfl)
                          (try simp only [Act.put, List.getElem_toArray, List.getElem_cons_zero, List.getElem_cons_succ, List.setIfInBounds_toArray, List.set_cons_zero, List.set_cons_succ])
                          refine wpDyn_take ?vT23x11 (Bl.stays w11) (fun _ h => h) (i := 11) rfl (by kernel_rfl) (by kernel_rfl) (by kernel_rfl) (by kernel_rfl) (by kernel_rfl) (fun _ _ _ h => h) (Gives.value (by rfl) ?yT23x11) ?rT23x11
                          case yT23x11 => (intro w' hSw; go_simp; try with_reducible rfl)
                          (try simp only [Act.put, List.getElem_toArray, List.getElem_cons_zero, List.getElem_cons_succ, List.setIfInBounds_toArray, List.set_cons_zero, List.set_cons_succ])
                          refine wpDyn_take ?vT23x12 (Bl.stays w11) (fun _ h => h) (i := 12) rfl (by kernel_rfl) (by kernel_rfl) (by kernel_rfl) (by kernel_rfl) (by kernel_rfl) (fun _ _ _ h => h) (Gives.value (by rfl) ?yT23x12) ?rT23x12
                          case yT23x12 => (intro w' hSw; go_simp; try with_reducible rfl)
                          (try simp only [Act.put, List.getElem_toArray, List.getElem_cons_zero, List.getElem_cons_succ, List.setIfInBounds_toArray, List.set_cons_zero, List.set_cons_succ])
                          refine wpDyn_take ?vT23x13 (Bl.stays w11) (fun _ h => h) (i := 13) rfl (by kernel_rfl) (by kernel_rfl) (by kernel_rfl) (by kernel_rfl) (by kernel_rfl) (fun _ _ _ h => h) (Gives.value (by rfl) ?yT23x13) ?rT23x13
                          case yT23x13 => (intro w' hSw; have hcl := cell_below (Bl.out' hSw) HCl.out; clear hSw; go_simp; try with_reducible rfl)
                          (try simp only [Act.put, List.getElem_toArray, List.getElem_cons_zero, List.getElem_cons_succ, List.setIfInBounds_toArray, List.set_cons_zero, List.set_cons_succ])
                          refine wpDyn_take ?vT23x14 (Bl.stays w11) (fun _ h => h) (i := 14) rfl (by kernel_rfl) (by kernel_rfl) (by kernel_rfl) (by kernel_rfl) (by kernel_rfl) (fun _ _ _ h => h) (Gives.value (by rfl) ?yT23x14) ?rT23x14
                          case yT23x14 => (intro w' hSw; go_simp; try with_reducible rfl)
                          (try simp only [Act.put, List.getElem_toArray, List.getElem_cons_zero, List.getElem_cons_succ, List.setIfInBounds_toArray, List.set_cons_zero, List.set_cons_succ])
                          refine wpDyn_take ?vT23x15 (Bl.stays w11) (fun _ h => h) (i := 15) rfl (by kernel_rfl) (by kernel_rfl) (by kernel_rfl) (by kernel_rfl) (by kernel_rfl) (fun _ _ _ h => h) (Gives.value (by rfl) ?yT23x15) ?rT23x15
                          case yT23x15 => (intro w' hSw; go_simp; try with_reducible rfl)
                          (try simp only [Act.put, List.getElem_toArray, List.getElem_cons_zero, List.getElem_cons_succ, List.setIfInBounds_toArray, List.set_cons_zero, List.set_cons_succ])
                          refine wpDyn_take (.pointer (some ⟨br, or_ + nk, none⟩)) (Bl.stays w11) (fun _ h => h) (i := 16) rfl (by kernel_rfl) (by kernel_rfl) (by kernel_rfl) (by kernel_rfl) (by kernel_rfl) (fun _ _ _ h => h) (Gives.value (by rfl) ?yT23x16) ?rT23x16
                          case yT23x16 => (intro w' hSw; go_simp; try (intro hx; exfalso; omega))
                          (try simp only [Act.put, List.getElem_toArray, List.getElem_cons_zero, List.getElem_cons_succ, List.setIfInBounds_toArray, List.set_cons_zero, List.set_cons_succ])
                          refine wpDyn_take ?vT23x17 (Bl.stays w11) (fun _ h => h) (i := 17) rfl (by kernel_rfl) (by kernel_rfl) (by kernel_rfl) (by kernel_rfl) (by kernel_rfl) (fun _ _ _ h => h) (Gives.value (by rfl) ?yT23x17) ?rT23x17
                          case yT23x17 => (intro w' hSw; have hcl := cell_below (Bl.out' hSw) HRr.out; clear hSw; go_simp; try with_reducible rfl)
                          (try simp only [Act.put, List.getElem_toArray, List.getElem_cons_zero, List.getElem_cons_succ, List.setIfInBounds_toArray, List.set_cons_zero, List.set_cons_succ])
                          refine wpDyn_take ?vT23x18 (Bl.stays w11) (fun _ h => h) (i := 18) rfl (by kernel_rfl) (by kernel_rfl) (by kernel_rfl) (by kernel_rfl) (by kernel_rfl) (fun _ _ _ h => h) (Gives.value (by rfl) ?yT23x18) ?rT23x18
                          case yT23x18 => (intro w' hSw; go_simp; try with_reducible rfl)
                          (try simp only [Act.put, List.getElem_toArray, List.getElem_cons_zero, List.getElem_cons_succ, List.setIfInBounds_toArray, List.set_cons_zero, List.set_cons_succ])
                          refine wpDyn_ready (rs := [19]) (by kernel_rfl) (by simp) (AllDyn.cons rfl (fun V hV K hK => ?_) AllDyn.nil)
                          rw [if_pos (by rfl)]
                          have hC := between_any pz p11 iz cq nR c11 kk (txb (tt.r.recs ++ [x.b])) V (by have h := HRV.out V hV; unfold txb at h ⊢; rw [← List.map_take]; exact h) (by rw [HnR.out]; exact HLV.out V hV) HIJ.out.1 (by rw [HnR.out]; exact HIJ.out.2) (by rw [HnR.out]; exact HRF.out)
                          refine wp_enterX 27 #[.slice pz iz cq, .slice p11 nR c11, .int .i64 kk] (by first | (go_simp; done) | (go_simp; rfl)) (fun v V' => v = .bool true ∧ Below V.heap.size V V') (hC.mono fun e V' ⟨h1, h2⟩ => ⟨_, h1, rfl, h2⟩) ?_
                          rintro v V1 ⟨rfl, hb⟩
                          refine hK.out (Bl w11) _ _ (Bl.stays w11) (fun _ _ h => h) (Bl.stays w11 _ _ hV hb) ?_
                          clear hK K hV hC hb
                          (try simp only [Act.put, List.getElem_toArray, List.getElem_cons_zero, List.getElem_cons_succ, List.setIfInBounds_toArray, List.set_cons_zero, List.set_cons_succ])
                          refine wpDyn_take ?vT23x20 (Bl.stays w11) (fun _ h => h) (i := 20) rfl (by kernel_rfl) (by kernel_rfl) (by kernel_rfl) (by kernel_rfl) (by kernel_rfl) (fun _ _ _ h => h) (Gives.value (by rfl) ?yT23x20) ?rT23x20
                          case yT23x20 => (intro w' hSw; go_simp; try with_reducible rfl)
                          (try simp only [Act.put, List.getElem_toArray, List.getElem_cons_zero, List.getElem_cons_succ, List.setIfInBounds_toArray, List.set_cons_zero, List.set_cons_succ])
                          refine wpDyn_take ?vT23x21 (Bl.stays w11) (fun _ h => h) (i := 21) rfl (by kernel_rfl) (by kernel_rfl) (by kernel_rfl) (by kernel_rfl) (by kernel_rfl) (fun _ _ _ h => h) (Gives.value (by rfl) ?yT23x21) ?rT23x21
                          case yT23x21 => (intro w' hSw; go_simp; try with_reducible rfl)
                          (try simp only [Act.put, List.getElem_toArray, List.getElem_cons_zero, List.getElem_cons_succ, List.setIfInBounds_toArray, List.set_cons_zero, List.set_cons_succ])
                          refine wpDyn_ready (rs := [22]) (by kernel_rfl) (by simp) (AllDyn.cons rfl (fun V hV K hK => ?_) AllDyn.nil)
                          rw [if_pos (by rfl)]
                          have hC := awake_any V
                          refine wp_enterX 8 #[] (by first | (go_simp; done) | (go_simp; rfl)) (fun v V' => v = .bool true ∧ Below V.heap.size V V') (hC.mono fun e V' ⟨h1, h2⟩ => ⟨_, h1, rfl, h2⟩) ?_
                          rintro v V1 ⟨rfl, hb⟩
                          refine hK.out (Bl w11) _ _ (Bl.stays w11) (fun _ _ h => h) (Bl.stays w11 _ _ hV hb) ?_
                          clear hK K hV hC hb
                          (try simp only [Act.put, List.getElem_toArray, List.getElem_cons_zero, List.getElem_cons_succ, List.setIfInBounds_toArray, List.set_cons_zero, List.set_cons_succ])
                          refine wpDyn_take ?vT23x23 (Bl.stays w11) (fun _ h => h) (i := 23) rfl (by kernel_rfl) (by kernel_rfl) (by kernel_rfl) (by kernel_rfl) (by kernel_rfl) (fun _ _ _ h => h) (Gives.value (by rfl) ?yT23x23) ?rT23x23
                          case yT23x23 => (intro w' hSw; go_simp; try with_reducible rfl)
                          (try simp only [Act.put, List.getElem_toArray, List.getElem_cons_zero, List.getElem_cons_succ, List.setIfInBounds_toArray, List.set_cons_zero, List.set_cons_succ])
                          refine wpDyn_take ?vT23x24 (Bl.stays w11) (fun _ h => h) (i := 24) rfl (by kernel_rfl) (by kernel_rfl) (by kernel_rfl) (by kernel_rfl) (by kernel_rfl) (fun _ _ _ h => h) (Gives.value (by rfl) ?yT23x24) ?rT23x24
                          case yT23x24 => (intro w' hSw; go_simp; try with_reducible rfl)
                          (try simp only [Act.put, List.getElem_toArray, List.getElem_cons_zero, List.getElem_cons_succ, List.setIfInBounds_toArray, List.set_cons_zero, List.set_cons_succ])
                          refine wpDyn_done (by kernel_rfl) (fun W2 hW2 => ?_) _
                          have HB99 : Hid (Below H w W2) := HB3.out.trans ((HB11.out.trans ((Bl.out' hW2).mono HL11.out)).mono HHL.out)
                          clear hW2
                          go_wp2_with fail
                          go_ret
                          exact ⟨rfl, by have h := HB99.out; rw [HH.out] at h; exact h⟩
                  · skip
                    as_aux_lemma =>
                      have HC9 : Hid ((ptT mm tt x.b).2.1 = mm ∧ (ptT mm tt x.b).2.2 = tt) := ⟨hm, ht⟩
                      obtain ⟨cz, Hcz⟩ : ∃ z, Hid (z = (ptT mm tt x.b).1) := ⟨_, rfl⟩
                      rw [← Hcz.out] at hC hz0 hz50
                      have hq0 : (cz == 0) = false := beq_false_of_ne hz0
                      have hq50 : (cz == 50) = false := beq_false_of_ne hz50
                      clear hz0 hz50 hm ht
                      go_wp2_with fail
                      rw [← Hwb.out]
                      refine hC.mono ?_
                      rintro e3 w6 ⟨rfl, ow6, hT6, ho6, hc6⟩
                      clear hC
                      have HI6 : Hid (KI w3 w6 L g gt ow6 ls (jj + 1) mm tt kk nk pb cb us pr cr vs pl cl) := by
                        rw [HC9.out.1, HC9.out.2] at hT6
                        have h9 : KI w3 w6 L g gt ow6 ls jj mm tt kk nk pb cb us pr cr vs pl cl := ⟨hT6, HI.out.kp, HI.out.few, HI.out.kr.op HI.out.ts.og hc6 ho6, HI.out.lb, HI.out.nkj, HI.out.bel.trans (hc6.lowB2 HI.out.ts)⟩
                        exact h9.skip
                      clear hT6 ho6 hc6
                      go_wp2_with fail
                      go_roundw
                      case rel => exact ⟨jj + 1, ow6, mm, tt, kk, nk, pb, cb, us, pr, cr, vs, pl, cl, by omega, by go_num, rfl, rfl, rfl, rfl, HI6.out⟩
                      case measure => simp [intOf]; omega
        · skip
          as_aux_lemma =>
            have hji : ¬ (jj : Int) < (n : Int) := by omega
            have HS : Hid (1000 + 100 * jj + 4 * szT ls jj ≤ 100000 ∧ jj ≤ 60) := by have h1 := szT_mono ls n jj hjj; have h2 := HSZ.out; have h3 := HN.out; exact ⟨by omega, by omega⟩
            have hbw : Below H w wr := HB3.out.trans (hI.bel.mono HHL.out)
            rw [HH.out] at hbw
            have hCr := Crash_T wr L g gt ow mm tt _ hI.ts hI.kp.ok (by have := HS.out; omega) hI.kp.up q m d ks (HQ.out.below' hbw) (fun x e h0 => Nat.lt_of_lt_of_le (HQ.out.ltb x e h0) (by rw [← HH.out]; exact HHL.out)) (by have := HM.out; omega)
            have HGot : Hid (Got (onM (mm.fall ks)) tt.r.base tt.r.recs kk) := hI.kp.crash (by have := HS.out; omega) HS.out.1 ks
            have HRF : Hid (tt.r.recs.length ≤ 1099511627776) := by have h1 := hI.few; have h2 := szT_mono ls n jj hjj; have h3 := HSZ.out; have := HS.out; show _ ≤ _; omega
            have HI : Hid (KI w3 wr L g gt ow ls jj mm tt kk nk pb cb us pr cr vs pl cl) := hI
            have HNK : Hid (nk ≤ 100) := by have h1 := hI.nkj; have h2 := HS.out.2; show _ ≤ _; omega
            clear hI hbw hjn hjj
            go_wp2_with fail
            refine hCr.mono ?_
            rintro e4 w9 ⟨rfl, hD9, hc9⟩
            clear hCr
            have HK9 : Hid (KR w9 ow L nk pb cb us pr cr vs pl cl tt.r.recs) := HI.out.kr.op HI.out.ts.og hc9 (fun _ _ => rfl)
            have HB9 : Hid (Below L w3 w9) := HI.out.bel.trans (hc9.lowB2 HI.out.ts)
            clear hc9
            obtain ⟨dz, hDz⟩ := hD9
            have hRe := reopened_any w9 L g ow dz _ hDz tt.r.base tt.r.recs kk HGot.out
            have HOG : Hid (ow g = 0 ∧ L ≤ w9.heap.size ∧ ∀ k, k < L → Fg2 ow g k) := ⟨hDz.da.og, hDz.lw, fun k hk => ⟨Or.inl (hDz.low k hk), by have := hDz.lg; omega⟩⟩
            clear hDz
            go_wp2_with fail
            refine hRe.mono ?_
            rintro e5 w10 ⟨pz, iz, cq, rfl, hi1, hi2, hrv, hch⟩
            clear hRe
            have hK10 := (HK9.out).op HOG.out.1 hch (fun _ _ => rfl)
            have hB10 : Below L w9 w10 := hch.lowL HOG.out.2.1 (fun k hk e => e (HOG.out.2.2 k hk))
            have HB10 : Hid (Below L w3 w10) := (HB9.out).trans hB10
            have HL10 : Hid (L ≤ w10.heap.size) := Nat.le_trans HOG.out.2.1 hch.size
            obtain ⟨bx, Hbx⟩ : ∃ z, Hid (z = w10.heap.size) := ⟨_, rfl⟩
            have hba := below_alloc w10 (.cells #[.pointer none, .int .i64 0, .string (strOfNums tt.r.base), .slice pz iz cq, .int .i64 0, .int .i64 0] 59)
            have hAt := At.new 59 w10 #[.pointer none, .int .i64 0, .string (strOfNums tt.r.base), .slice pz iz cq, .int .i64 0, .int .i64 0]
            rw [← Hbx.out] at hAt
            obtain ⟨w11, Hw11⟩ : ∃ z, Hid (z = w10.alloc (.cells #[.pointer none, .int .i64 0, .string (strOfNums tt.r.base), .slice pz iz cq, .int .i64 0, .int .i64 0] 59)) := ⟨_, rfl⟩
            rw [← Hw11.out] at hba hAt
            have hK11 := hK10.below hba
            have HB11 : Hid (Below L w3 w11) := HB10.out.trans (hba.mono HL10.out)
            have HL11 : Hid (L ≤ w11.heap.size) := Nat.le_trans HL10.out hba.size
            obtain ⟨sB, HsB⟩ : ∃ z, Hid (z = strOfNums tt.r.base) := ⟨_, rfl⟩
            have HCb : Hid (w11.cell? ⟨bx, 2, none⟩ = some (.string sB)) := by rw [HsB.out]; exact hAt.cell 2
            have HCl : Hid (w11.cell? ⟨bx, 3, none⟩ = some (.slice pz iz cq)) := hAt.cell 3
            have HIJ : Hid (kk ≤ iz ∧ iz ≤ (tt.r.recs).length) := ⟨hi1, hi2⟩
            have HRV : Hid (∀ V, Bl w11 V → RdV V pz iz cq (txt (txb ((tt.r.recs).take iz)))) := fun V h => (hrv.below hba).below (Bl.out' h)
            have HK11 : Hid (KR w11 ow L nk pb cb us pr cr vs pl cl tt.r.recs) := hK11
            clear hK10 hK11 hB10 hch hrv hi1 hi2 hba hAt HB10 HL10 HOG
            obtain ⟨bb, ob, hpb, hcb⟩ := HK11.out.bs.rd.cells (Nat.succ_pos _)
            obtain ⟨br, or_, hpr, hcr⟩ := HK11.out.rs.rd.cells (Nat.succ_pos _)
            have hcb1 := hcb nk (Nat.lt_succ_self _)
            have hcr1 := hcr nk (Nat.lt_succ_self _)
            rw [HK11.out.lv] at hcr1
            rw [kstrs_getD (by have := HK11.out.bs.len; rw [kstrs_len] at this; omega), HI.out.lb] at hcb1
            have HBb : Hid (w11.cell? ⟨bb, ob + nk, none⟩ = some (.string sB)) := by rw [HsB.out]; exact hcb1
            have HRr : Hid (w11.cell? ⟨br, or_ + nk, none⟩ = some (.slice pl (tt.r.recs).length cl)) := hcr1
            have HLV : Hid (∀ V, Bl w11 V → RdV V pl (tt.r.recs).length cl (txt (txb tt.r.recs))) := fun V h => by rw [← strs_txb]; exact HK11.out.lr.rd.below (Bl.out' h)
            have HPB : Hid (pb = some ⟨bb, ob, none⟩ ∧ pr = some ⟨br, or_, none⟩) := ⟨hpb, hpr⟩
            rw [HPB.out.1, HPB.out.2]
            have hnk1 : (nk : Int) < ((nk + 1 : Nat) : Int) := by omega
            have hnk60 : nk ≤ 100 := HNK.out
            obtain ⟨nR, HnR⟩ : ∃ z, Hid (z = (tt.r.recs).length) := ⟨_, rfl⟩
            rw [← HnR.out] at HRr
            clear hcb hcr hcb1 hcr1 hpb hpr
            go_wp2_with fail
            rw [← Hw11.out, ← HsB.out, ← Hbx.out]
            have hS8 : Bl w11 w11.drew := (Below.refl _ _).drew
            refine wp_region_dyn [0, 1, 2, 3, 4, 5, 6, 7, 8, 9, 10, 11, 12, 13, 14, 15, 16, 17, 18, 20, 21, 23, 24] (Bl w11) (Bl w11) (by kernel_rfl) hS8 ?_
            clear hS8
            refine wpDyn_take ?vT24x0 (Bl.stays w11) (fun _ h => h) (i := 0) rfl (by kernel_rfl) (by kernel_rfl) (by kernel_rfl) (by kernel_rfl) (by kernel_rfl) (fun _ _ _ h => h) (Gives.value (by rfl) ?yT24x0) ?rT24x0
            case yT24x0 => (intro w' hSw; go_simp; try with_reducible rfl)
            (try simp only [Act.put, List.getElem_toArray, List.getElem_cons_zero, List.getElem_cons_succ, List.setIfInBounds_toArray, List.set_cons_zero, List.set_cons_succ])
            refine wpDyn_take ?vT24x1 (Bl.stays w11) (fun _ h => h) (i := 1) rfl (by kernel_rfl) (by kernel_rfl) (by kernel_rfl) (by kernel_rfl) (by kernel_rfl) (fun _ _ _ h => h) (Gives.value (by rfl) ?yT24x1) ?rT24x1
            case yT24x1 => (intro w' hSw; go_simp; try with_reducible rfl)
            (try simp only [Act.put, List.getElem_toArray, List.getElem_cons_zero, List.getElem_cons_succ, List.setIfInBounds_toArray, List.set_cons_zero, List.set_cons_succ])
            refine wpDyn_take ?vT24x2 (Bl.stays w11) (fun _ h => h) (i := 2) rfl (by kernel_rfl) (by kernel_rfl) (by kernel_rfl) (by kernel_rfl) (by kernel_rfl) (fun _ _ _ h => h) (Gives.value (by rfl) ?yT24x2) ?rT24x2
            case yT24x2 => (intro w' hSw; go_simp; try with_reducible rfl)
            (try simp only [Act.put, List.getElem_toArray, List.getElem_cons_zero, List.getElem_cons_succ, List.setIfInBounds_toArray, List.set_cons_zero, List.set_cons_succ])
            refine wpDyn_take ?vT24x3 (Bl.stays w11) (fun _ h => h) (i := 3) rfl (by kernel_rfl) (by kernel_rfl) (by kernel_rfl) (by kernel_rfl) (by kernel_rfl) (fun _ _ _ h => h) (Gives.value (by rfl) ?yT24x3) ?rT24x3
            case yT24x3 => (intro w' hSw; go_simp; try with_reducible rfl)
            (try simp only [Act.put, List.getElem_toArray, List.getElem_cons_zero, List.getElem_cons_succ, List.setIfInBounds_toArray, List.set_cons_zero, List.set_cons_succ])
            refine wpDyn_take ?vT24x4 (Bl.stays w11) (fun _ h => h) (i := 4) rfl (by kernel_rfl) (by kernel_rfl) (by kernel_rfl) (by kernel_rfl) (by kernel_rfl) (fun _ _ _ h => h) (Gives.value (by rfl) ?yT24x4) ?rT24x4
            case yT24x4 => (intro w' hSw; have hcl := cell_below (Bl.out' hSw) HCb.out; clear hSw; go_simp; try with_reducible rfl)
            (try simp only [Act.put, List.getElem_toArray, List.getElem_cons_zero, List.getElem_cons_succ, List.setIfInBounds_toArray, List.set_cons_zero, List.set_cons_succ])
            refine wpDyn_take ?vT24x5 (Bl.stays w11) (fun _ h => h) (i := 5) rfl (by kernel_rfl) (by kernel_rfl) (by kernel_rfl) (by kernel_rfl) (by kernel_rfl) (fun _ _ _ h => h) (Gives.value (by rfl) ?yT24x5) ?rT24x5
            case yT24x5 => (intro w' hSw; go_simp; try with_reducible rfl)
            (try simp only [Act.put, List.getElem_toArray, List.getElem_cons_zero, List.getElem_cons_succ, List.setIfInBounds_toArray, List.set_cons_zero, List.set_cons_succ])
            refine wpDyn_take ?vT24x6 (Bl.stays w11) (fun _ h => h) (i := 6) rfl (by kernel_rfl) (by kernel_rfl) (by kernel_rfl) (by kernel_rfl) (by kernel_rfl) (fun _ _ _ h => h) (Gives.value (by rfl) ?yT24x6) ?rT24x6
            case yT24x6 => (intro w' hSw; go_simp; try with_reducible rfl)
            (try simp only [Act.put, List.getElem_toArray, List.getElem_cons_zero, List.getElem_cons_succ, List.setIfInBounds_toArray, List.set_cons_zero, List.set_cons_succ])
            refine wpDyn_take (.pointer (some ⟨bb, ob + nk, none⟩)) (Bl.stays w11) (fun _ h => h) (i := 7) rfl (by kernel_rfl) (by kernel_rfl) (by kernel_rfl) (by kernel_rfl) (by kernel_rfl) (fun _ _ _ h => h) (Gives.value (by rfl) ?yT24x7) ?rT24x7
            case yT24x7 => (intro w' hSw; go_simp; try (intro hx; exfalso; omega))
            (try simp only [Act.put, List.getElem_toArray, List.getElem_cons_zero, List.getElem_cons_succ, List.setIfInBounds_toArray, List.set_cons_zero, List.set_cons_succ])
            refine wpDyn_take ?vT24x8 (Bl.stays w11) (fun _ h => h) (i := 8) rfl (by kernel_rfl) (by kernel_rfl) (by kernel_rfl) (by kernel_rfl) (by kernel_rfl) (fun _ _ _ h => h) (Gives.value (by rfl) ?yT24x8) ?rT24x8
            case yT24x8 => (intro w' hSw; have hcl := cell_below (Bl.out' hSw) HBb.out; clear hSw; go_simp; try with_reducible rfl)
            (try simp only [Act.put, List.getElem_toArray, List.getElem_cons_zero, List.getElem_cons_succ, List.setIfInBounds_toArray, List.set_cons_zero, List.set_cons_succ])
            refine wpDyn_take ?vT24x9 (Bl.stays w11) (fun _ h => h) (i := 9) rfl (by kernel_rfl) (by kernel_rfl) (by kernel_rfl) (by kernel_rfl) (by kernel_rfl) (fun _ _ _ h => h) (Gives.value (by rfl) ?yT24x9) ?rT24x9
            case yT24x9 => (intro w' hSw; go_simp; try with_reducible rfl)
            (try simp only [Act.put, List.getElem_toArray, List.getElem_cons_zero, List.getElem_cons_succ, List.setIfInBounds_toArray, List.set_cons_zero, List.set_cons_succ])
            refine wpDyn_take ?vT24x10 (Bl.stays w11) (fun _ h => h) (i := 10) rfl (by kernel_rfl) (by kernel_rfl) (by kernel_rfl) (by kernel_rfl) (by kernel_rfl) (fun _ _ _ h => h) (Gives.value (by rfl) ?yT24x10) ?rT24x10
            case yT24x10 => (intro w' hSw; go_simp; try with_reducible rfl)
            (try simp only [Act.put, List.getElem_toArray, List.getElem_cons_zero, List.getElem_cons_succ, List.setIfInBounds_toArray, List.set_cons_zero, List.set_cons_succ])
            refine wpDyn_take ?vT24x11 (Bl.stays w11) (fun _ h => h) (i := 11) rfl (by kernel_rfl) (by kernel_rfl) (by kernel_rfl) (by kernel_rfl) (by kernel_rfl) (fun _ _ _ h => h) (Gives.value (by rfl) ?yT24x11) ?rT24x11
            case yT24x11 => (intro w' hSw; go_simp; try with_reducible rfl)
            (try simp only [Act.put, List.getElem_toArray, List.getElem_cons_zero, List.getElem_cons_succ, List.setIfInBounds_toArray, List.set_cons_zero, List.set_cons_succ])
            refine wpDyn_take ?vT24x12 (Bl.stays w11) (fun _ h => h) (i := 12) rfl (by kernel_rfl) (by kernel_rfl) (by kernel_rfl) (by kernel_rfl) (by kernel_rfl) (fun _ _ _ h => h) (Gives.value (by rfl) ?yT24x12) ?rT24x12
            case yT24x12 => (intro w' hSw; go_simp; try with_reducible rfl)
            (try simp only [Act.put, List.getElem_toArray, List.getElem_cons_zero, List.getElem_cons_succ, List.setIfInBounds_toArray, List.set_cons_zero, List.set_cons_succ])
            refine wpDyn_take ?vT24x13 (Bl.stays w11) (fun _ h => h) (i := 13) rfl (by kernel_rfl) (by kernel_rfl) (by kernel_rfl) (by kernel_rfl) (by kernel_rfl) (fun _ _ _ h => h) (Gives.value (by rfl) ?yT24x13) ?rT24x13
            case yT24x13 => (intro w' hSw; have hcl := cell_below (Bl.out' hSw) HCl.out; clear hSw; go_simp; try with_reducible rfl)
            (try simp only [Act.put, List.getElem_toArray, List.getElem_cons_zero, List.getElem_cons_succ, List.setIfInBounds_toArray, List.set_cons_zero, List.set_cons_succ])
            refine wpDyn_take ?vT24x14 (Bl.stays w11) (fun _ h => h) (i := 14) rfl (by kernel_rfl) (by kernel_rfl) (by kernel_rfl) (by kernel_rfl) (by kernel_rfl) (fun _ _ _ h => h) (Gives.value (by rfl) ?yT24x14) ?rT24x14
            case yT24x14 => (intro w' hSw; go_simp; try with_reducible rfl)
            (try simp only [Act.put, List.getElem_toArray, List.getElem_cons_zero, List.getElem_cons_succ, List.setIfInBounds_toArray, List.set_cons_zero, List.set_cons_succ])
            refine wpDyn_take ?vT24x15 (Bl.stays w11) (fun _ h => h) (i := 15) rfl (by kernel_rfl) (by kernel_rfl) (by kernel_rfl) (by kernel_rfl) (by kernel_rfl) (fun _ _ _ h => h) (Gives.value (by rfl) ?yT24x15) ?rT24x15
            case yT24x15 => (intro w' hSw; go_simp; try with_reducible rfl)
            (try simp only [Act.put, List.getElem_toArray, List.getElem_cons_zero, List.getElem_cons_succ, List.setIfInBounds_toArray, List.set_cons_zero, List.set_cons_succ])
            refine wpDyn_take (.pointer (some ⟨br, or_ + nk, none⟩)) (Bl.stays w11) (fun _ h => h) (i := 16) rfl (by kernel_rfl) (by kernel_rfl) (by kernel_rfl) (by kernel_rfl) (by kernel_rfl) (fun _ _ _ h => h) (Gives.value (by rfl) ?yT24x16) ?rT24x16
            case yT24x16 => (intro w' hSw; go_simp; try (intro hx; exfalso; omega))
            (try simp only [Act.put, List.getElem_toArray, List.getElem_cons_zero, List.getElem_cons_succ, List.setIfInBounds_toArray, List.set_cons_zero, List.set_cons_succ])
            refine wpDyn_take ?vT24x17 (Bl.stays w11) (fun _ h => h) (i := 17) rfl (by kernel_rfl) (by kernel_rfl) (by kernel_rfl) (by kernel_rfl) (by kernel_rfl) (fun _ _ _ h => h) (Gives.value (by rfl) ?yT24x17) ?rT24x17
            case yT24x17 => (intro w' hSw; have hcl := cell_below (Bl.out' hSw) HRr.out; clear hSw; go_simp; try with_reducible rfl)
            (try simp only [Act.put, List.getElem_toArray, List.getElem_cons_zero, List.getElem_cons_succ, List.setIfInBounds_toArray, List.set_cons_zero, List.set_cons_succ])
            refine wpDyn_take ?vT24x18 (Bl.stays w11) (fun _ h => h) (i := 18) rfl (by kernel_rfl) (by kernel_rfl) (by kernel_rfl) (by kernel_rfl) (by kernel_rfl) (fun _ _ _ h => h) (Gives.value (by rfl) ?yT24x18) ?rT24x18
            case yT24x18 => (intro w' hSw; go_simp; try with_reducible rfl)
            (try simp only [Act.put, List.getElem_toArray, List.getElem_cons_zero, List.getElem_cons_succ, List.setIfInBounds_toArray, List.set_cons_zero, List.set_cons_succ])
            refine wpDyn_ready (rs := [19]) (by kernel_rfl) (by simp) (AllDyn.cons rfl (fun V hV K hK => ?_) AllDyn.nil)
            rw [if_pos (by rfl)]
            have hC := between_any pz pl iz cq nR cl kk (txb tt.r.recs) V (by have h := HRV.out V hV; unfold txb at h ⊢; rw [← List.map_take]; exact h) (by rw [HnR.out]; exact HLV.out V hV) HIJ.out.1 (by rw [HnR.out]; exact HIJ.out.2) (by rw [HnR.out]; exact HRF.out)
            refine wp_enterX 27 #[.slice pz iz cq, .slice pl nR cl, .int .i64 kk] (by first | (go_simp; done) | (go_simp; rfl)) (fun v V' => v = .bool true ∧ Below V.heap.size V V') (hC.mono fun e V' ⟨h1, h2⟩ => ⟨_, h1, rfl, h2⟩) ?_
            rintro v V1 ⟨rfl, hb⟩
            refine hK.out (Bl w11) _ _ (Bl.stays w11) (fun _ _ h => h) (Bl.stays w11 _ _ hV hb) ?_
            clear hK K hV hC hb
            (try simp only [Act.put, List.getElem_toArray, List.getElem_cons_zero, List.getElem_cons_succ, List.setIfInBounds_toArray, List.set_cons_zero, List.set_cons_succ])
            refine wpDyn_take ?vT24x20 (Bl.stays w11) (fun _ h => h) (i := 20) rfl (by kernel_rfl) (by kernel_rfl) (by kernel_rfl) (by kernel_rfl) (by kernel_rfl) (fun _ _ _ h => h) (Gives.value (by rfl) ?yT24x20) ?rT24x20
            case yT24x20 => (intro w' hSw; go_simp; try with_reducible rfl)
            (try simp only [Act.put, List.getElem_toArray, List.getElem_cons_zero, List.getElem_cons_succ, List.setIfInBounds_toArray, List.set_cons_zero, List.set_cons_succ])
            refine wpDyn_take ?vT24x21 (Bl.stays w11) (fun _ h => h) (i := 21) rfl (by kernel_rfl) (by kernel_rfl) (by kernel_rfl) (by kernel_rfl) (by kernel_rfl) (fun _ _ _ h => h) (Gives.value (by rfl) ?yT24x21) ?rT24x21
            case yT24x21 => (intro w' hSw; go_simp; try with_reducible rfl)
            (try simp only [Act.put, List.getElem_toArray, List.getElem_cons_zero, List.getElem_cons_succ, List.setIfInBounds_toArray, List.set_cons_zero, List.set_cons_succ])
            refine wpDyn_ready (rs := [22]) (by kernel_rfl) (by simp) (AllDyn.cons rfl (fun V hV K hK => ?_) AllDyn.nil)
            rw [if_pos (by rfl)]
            have hC := awake_any V
            refine wp_enterX 8 #[] (by first | (go_simp; done) | (go_simp; rfl)) (fun v V' => v = .bool true ∧ Below V.heap.size V V') (hC.mono fun e V' ⟨h1, h2⟩ => ⟨_, h1, rfl, h2⟩) ?_
            rintro v V1 ⟨rfl, hb⟩
            refine hK.out (Bl w11) _ _ (Bl.stays w11) (fun _ _ h => h) (Bl.stays w11 _ _ hV hb) ?_
            clear hK K hV hC hb
            (try simp only [Act.put, List.getElem_toArray, List.getElem_cons_zero, List.getElem_cons_succ, List.setIfInBounds_toArray, List.set_cons_zero, List.set_cons_succ])
            refine wpDyn_take ?vT24x23 (Bl.stays w11) (fun _ h => h) (i := 23) rfl (by kernel_rfl) (by kernel_rfl) (by kernel_rfl) (by kernel_rfl) (by kernel_rfl) (fun _ _ _ h => h) (Gives.value (by rfl) ?yT24x23) ?rT24x23
            case yT24x23 => (intro w' hSw; go_simp; try with_reducible rfl)
            (try simp only [Act.put, List.getElem_toArray, List.getElem_cons_zero, List.getElem_cons_succ, List.setIfInBounds_toArray, List.set_cons_zero, List.set_cons_succ])
            refine wpDyn_take ?vT24x24 (Bl.stays w11) (fun _ h => h) (i := 24) rfl (by kernel_rfl) (by kernel_rfl) (by kernel_rfl) (by kernel_rfl) (by kernel_rfl) (fun _ _ _ h => h) (Gives.value (by rfl) ?yT24x24) ?rT24x24
            case yT24x24 => (intro w' hSw; go_simp; try with_reducible rfl)
            (try simp only [Act.put, List.getElem_toArray, List.getElem_cons_zero, List.getElem_cons_succ, List.setIfInBounds_toArray, List.set_cons_zero, List.set_cons_succ])
            refine wpDyn_done (by kernel_rfl) (fun W2 hW2 => ?_) _
            have HB99 : Hid (Below H w W2) := HB3.out.trans ((HB11.out.trans ((Bl.out' hW2).mono HL11.out)).mono HHL.out)
            clear hW2
            go_wp2_with fail
            go_ret
            exact ⟨rfl, by have h := HB99.out; rw [HH.out] at h; exact h⟩

end Go.Proofs.Ytpjhadaiodnnaaa.M
end
