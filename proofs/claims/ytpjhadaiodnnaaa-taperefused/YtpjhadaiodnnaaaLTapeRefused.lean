/-
  Own text: the walk of the law TapeRefused.
-/
import Derived.Test.YtpjhadaiodnnaaaTAsk
namespace Go.Proofs.Ytpjhadaiodnnaaa.M
open Go.ChangeShapes Go.WideShapes Go.ChangeAt Go.RowKit
set_option linter.unusedSimpArgs false

/-- One call alone, with records alone. -/
def Tv.l1 (r : Option Addr) (k e : Nat) (us : List Value) (more : List (List Int)) : Tv := ⟨0, 0, none, 0, 0, r, k, e, none, 0, 0, [], us, more, []⟩

theorem two_lists (w : World) (p : Option Addr) (n c : Nat) (ls : List Tv) (hl : RdT w p n ls) (r : Option Addr) (k e : Nat) (us : List Value) (more : List (List Int)) (hV : RdV w r k e us) (hS : Sls w us more) (hz : ∀ xs ∈ more, By xs) :
    RdTT ((w.alloc (.cells #[.int .i64 0, .int .i64 0, .slice none 0 0, .slice r k e, .slice none 0 0] 52)).alloc (.cells #[.slice p n c, .slice (some ⟨w.heap.size, 0, none⟩) 1 1] 42)) (some ⟨w.heap.size + 1, 0, none⟩) 2 [ls, [Tv.l1 r k e us more]] ∧ Below w.heap.size w ((w.alloc (.cells #[.int .i64 0, .int .i64 0, .slice none 0 0, .slice r k e, .slice none 0 0] 52)).alloc (.cells #[.slice p n c, .slice (some ⟨w.heap.size, 0, none⟩) 1 1] 42)) := by
  have h1 := below_alloc w (.cells #[.int .i64 0, .int .i64 0, .slice none 0 0, .slice r k e, .slice none 0 0] 52)
  have h2 := below_alloc (w.alloc (.cells #[.int .i64 0, .int .i64 0, .slice none 0 0, .slice r k e, .slice none 0 0] 52)) (.cells #[.slice p n c, .slice (some ⟨w.heap.size, 0, none⟩) 1 1] 42)
  have hs : (w.alloc (.cells #[.int .i64 0, .int .i64 0, .slice none 0 0, .slice r k e, .slice none 0 0] 52)).heap.size = w.heap.size + 1 := by simp
  have hA := (At.new 52 w #[.int .i64 0, .int .i64 0, .slice none 0 0, .slice r k e, .slice none 0 0]).below h2
  have hB := At.new 42 (w.alloc (.cells #[.int .i64 0, .int .i64 0, .slice none 0 0, .slice r k e, .slice none 0 0] 52)) #[.slice p n c, .slice (some ⟨w.heap.size, 0, none⟩) 1 1]
  rw [hs] at hB
  have h12 := h1.trans (h2.mono h1.size)
  refine ⟨⟨rfl, fun _ => ⟨w.heap.size + 1, 0, rfl, fun j hj => ?_⟩⟩, h12⟩
  match j, hj with
  | 0, _ => exact ⟨p, n, c, hB.cell 0, hl.below h12⟩
  | 1, _ =>
    refine ⟨some ⟨w.heap.size, 0, none⟩, 1, 1, hB.cell 1, rfl, fun _ => ⟨w.heap.size, 0, rfl, fun i hi => ?_⟩, fun i hi => ?_⟩
    · obtain rfl : i = 0 := by omega
      exact ⟨hA.cell 0, hA.cell 1, hA.cell 2, hA.cell 3, hA.cell 4⟩
    · obtain rfl : i = 0 := by omega
      exact ⟨Rd.empty _ _ _ _ (fun _ => rfl), hV.below h12, hS.below h12, Rd.empty _ _ _ _ (fun _ => rfl), ⟨(by decide : (-9223372036854775808 : Int) ≤ 0), (by decide : (0 : Int) ≤ 9223372036854775807)⟩, By.nil, hz⟩

/-- Where the law is while it plays calls. -/
structure RfI (w3 wr : World) (L g gt : Nat) (own : Nat → Nat) (kk : Nat) (m : PD) (t : TP) : Prop where
  ts : TSx wr L 0 g gt own m t
  liv : Liv m t
  cal : Cal m
  ok : m.ok (1000 + kk * 40000000)
  few : t.r.recs.length ≤ 4096 + kk
  bel : Below L w3 wr

theorem RfI.fit {w3 wr : World} {L g gt : Nat} {own : Nat → Nat} {kk : Nat} {m : PD} {t : TP} (h : RfI w3 wr L g gt own kk m t) : Fit m (1000 + kk * 40000000) := ⟨h.ok, h.cal.up⟩

theorem RfI.below {w3 wr w' : World} {L g gt : Nat} {own : Nat → Nat} {kk : Nat} {m : PD} {t : TP} (h : RfI w3 wr L g gt own kk m t) (hb : Below wr.heap.size wr w') : RfI w3 w' L g gt own kk m t := ⟨h.ts.below hb, h.liv, h.cal, h.ok, h.few, h.bel.trans (hb.mono h.ts.o.lw)⟩

/-- A Put. -/
theorem RfI.put {w3 w0 w1 : World} {L g gt : Nat} {own : Nat → Nat} {kk : Nat} {m : PD} {t : TP} (h : RfI w3 w0 L g gt own kk m t) (hk : kk ≤ 70) (hb : Below w0.heap.size w0 w1) (q : Option Addr) (n c : Nat) (xs : List Int) (hr : Rd .u8 w1 q n c xs) (hy : By xs) (hlow : ∀ x, q = some x → 0 < n → x.block < L) :
    Calls Try.prog 23 #[.pointer (some ⟨gt, 0, none⟩), .slice q n c] w1 fun e w' => e = .returned (.int .i64 (ptT m t xs).1) ∧ ∃ own2, RfI w3 w' L g gt own2 (kk + 1) (ptT m t xs).2.1 (ptT m t xs).2.2 ∧ (∀ k, k < w1.heap.size → own2 k = own k) ∧ Ch (fun k => ¬ Fgn own g k) w1 w' := by
  refine (Put_S w0 w1 L 0 g gt own m t _ (by decide) h.ts hb h.fit (by omega) h.liv.file (by have := h.few; omega) q n c xs hr hy (fun x e h0 => h.ts.old (hlow x e h0))).mono ?_
  rintro e w' ⟨rfl, own2, h1, h3, h2⟩
  have hl := h.liv.put h.cal hy
  refine ⟨rfl, own2, ⟨h1, hl.1, hl.2, (ptT_ok h.ok h.liv.file).mono (by omega), ?_, (h.below hb).bel.trans (h2.lowB (h.ts.below hb))⟩, h3, h2⟩
  have hf := h.few
  unfold ptT
  split
  · show t.r.recs.length ≤ _
    omega
  · dsimp only
    split
    · show (t.r.recs ++ [xs]).length ≤ _
      rw [List.length_append]
      show t.r.recs.length + 1 ≤ _
      omega
    · omega

/-- A Save. -/
theorem RfI.save {w3 w1 : World} {L g gt : Nat} {own : Nat → Nat} {kk : Nat} {m : PD} {t : TP} (h : RfI w3 w1 L g gt own kk m t) (hk : kk ≤ 70) (q : Option Addr) (n c : Nat) (xs : List Int) (hr : Rd .u8 w1 q n c xs) (hy : By xs) (pl : Option Addr) (nl cl : Nat) (us : List Value) (recs : List (List Int)) (hpl : RdV w1 pl nl cl us) (hus : Sls w1 us recs) (hn : nl ≤ 4096) (hz : ∀ d ∈ recs, By d) :
    Calls Try.prog 21 #[.pointer (some ⟨gt, 0, none⟩), .slice q n c, .slice pl nl cl] w1 fun e w' => e = .returned (.int .i64 (svT m t xs recs).1) ∧ ∃ own2, RfI w3 w' L g gt own2 (kk + 1) (svT m t xs recs).2.1 (svT m t xs recs).2.2 ∧ (∀ k, k < w1.heap.size → own2 k = own k) ∧ Ch (fun k => ¬ Fgn own g k) w1 w' := by
  have hnl : nl = recs.length := by rw [← hus.1, hpl.len]
  have hg := h.liv.gen
  refine (Save_T w1 L 0 g gt own m t _ (by decide) h.ts h.fit (by omega) h.liv.file (by omega) q n c xs hr hy pl nl cl us recs hpl hus hnl (by omega) (all_getD hz)).mono ?_
  rintro e w' ⟨rfl, own2, h1, h3, h2⟩
  have hl := h.liv.save (base := xs) (recs := recs) h.cal hy hz (by omega)
  refine ⟨rfl, own2, ⟨h1, hl.1, hl.2, (svT_ok h.ok h.liv.file (by omega) hy (by omega)).mono (by omega), ?_, h.bel.trans (h2.lowB h.ts)⟩, h3, h2⟩
  have hf := h.few
  unfold svT
  split
  · show t.r.recs.length ≤ _
    omega
  · split
    · show t.r.recs.length ≤ _
      omega
    · dsimp only
      split
      · show recs.length ≤ _
        omega
      · omega

/-- A Sync. -/
theorem RfI.sync {w3 w1 : World} {L g gt : Nat} {own : Nat → Nat} {kk : Nat} {m : PD} {t : TP} (h : RfI w3 w1 L g gt own kk m t) (hk : kk ≤ 70) :
    Calls Try.prog 20 #[.pointer (some ⟨gt, 0, none⟩)] w1 fun e w' => e = .returned (.int .i64 (syT m t).1) ∧ ∃ own2, RfI w3 w' L g gt own2 (kk + 1) (syT m t).2.1 (syT m t).2.2 := by
  refine (Sync_S w1 L 0 g gt own m t _ (by decide) h.ts h.fit (by omega) h.liv.file).mono ?_
  rintro e w' ⟨rfl, own2, h1, h3, h2⟩
  have hl := h.liv.sync h.cal
  refine ⟨rfl, own2, ⟨h1, hl.1, hl.2.1, ?_, ?_, h.bel.trans (h2.lowB h.ts)⟩⟩
  · exact (h.ok.syncAt (show t.file < 8 by have := h.liv.file; omega)).mono (by omega)
  · rw [hl.2.2]
    have := h.few
    omega

/-- The base and the records that were told ahead, in memory of their own. -/
structure Told2 (w : World) (own : Nat → Nat) (g : Nat) (r : PR) (pB : Option Addr) (cB : Nat) (pW : Option Addr) (cW : Nat) : Prop where
  b : Rd .u8 w pB r.base.length cB r.base
  fb : ∀ x, pB = some x → 0 < r.base.length → Fgn own g x.block
  v : RdV w pW r.recs.length cW (strs r.recs)
  fv : ∀ x, pW = some x → 0 < r.recs.length → Fgn own g x.block

theorem Told2.ch {w w' : World} {own own2 : Nat → Nat} {g : Nat} {r : PR} {pB : Option Addr} {cB : Nat} {pW : Option Addr} {cW : Nat} (h : Told2 w own g r pB cB pW cW) (hc : Ch (fun k => ¬ Fgn own g k) w w') (ho : ∀ k, k < w.heap.size → own2 k = own k) : Told2 w' own2 g r pB cB pW cW :=
  ⟨h.b.ch0 hc (fun x e h0 h1 => h1 (h.fb x e h0)), fun x e h0 => (h.fb x e h0).to (h.b.ltb x e h0) ho, h.v.ch0 hc (fun x e h0 h1 => h1 (h.fv x e h0)), fun x e h0 => (h.fv x e h0).to (h.v.ltb x e h0) ho⟩

set_option maxRecDepth 20000 in
set_option maxHeartbeats 8000000 in
theorem walk_TapeRefused (w : World) (p : Option Addr) (n c : Nat) (ls : List Tv) (hl : RdT w p n ls) (q : Option Addr) (m d : Nat) (bs : List Int) (hq : Rd .u8 w q m d bs) (hby : By bs) (r : Option Addr) (k e : Nat) (us : List Value) (more : List (List Int)) (hV : RdV w r k e us) (hS : Sls w us more) (hz : ∀ xs ∈ more, By xs) :
    Calls Try.prog 6 #[.slice p n c, .slice q m d, .slice r k e] w fun e w' => e = .returned (.bool true) ∧ Below w.heap.size w w' := by
  obtain ⟨hTT, hb2⟩ := two_lists w p n c ls hl r k e us more hV hS hz
  have hSh := short_any _ _ 2 2 _ hTT (by decide)
  obtain ⟨H, HH⟩ : ∃ z, Hid (z = w.heap.size) := ⟨_, rfl⟩
  have HB2 : Hid (Below H w ((w.alloc (.cells #[.int .i64 0, .int .i64 0, .slice none 0 0, .slice r k e, .slice none 0 0] 52)).alloc (.cells #[.slice p n c, .slice (some ⟨w.heap.size, 0, none⟩) 1 1] 42))) := by rw [HH.out]; exact hb2
  have HL : Hid (RdT w p n ls) := hl
  have HQ : Hid (Rd .u8 w q m d bs) := hq
  have HBY : Hid (By bs) := hby
  have HV : Hid (RdV w r k e us) := hV
  have HS : Hid (Sls w us more) := hS
  have HZ : Hid (∀ xs ∈ more, By xs) := hz
  clear hTT hb2 hl hq hby hV hS hz
  go_enter Try.func6, Try.ntmps6
  go_wp2_with fail
  refine hSh.mono ?_
  rintro e1 w3 ⟨⟨b, rfl, hbt⟩, hb3⟩
  clear hSh
  have HB3 : Hid (Below H w w3) := HB2.out.trans (hb3.mono (by rw [HH.out]; simp; omega))
  have HH3 : Hid (H ≤ w3.heap.size) := Nat.le_trans (by rw [HH.out]; exact Nat.le_refl _) HB3.out.size
  have HBT : Hid (b = true → totT [ls, [Tv.l1 r k e us more]] 2 ≤ 16384 ∧ cntT [ls, [Tv.l1 r k e us more]] 2 ≤ 60) := hbt
  have hAw := awake_any w3
  clear hb3 hbt
  cases b with
  | false =>
    go_wp2_with fail
    refine hAw.mono ?_
    rintro e2 w9 ⟨rfl, hb9⟩
    clear hAw
    have HB9 : Hid (Below H w w9) := HB3.out.trans (hb9.mono HH3.out)
    clear hb9
    go_wp2_with fail
    go_ret
    exact ⟨rfl, by have h := HB9.out; rw [HH.out] at h; exact h⟩
  | true =>
    obtain ⟨hb1, hb2⟩ := HBT.out rfl
    by_cases hm : (65536 : Int) < (m : Int)
    · clear hb1 hb2
      go_wp2_with fail
      refine hAw.mono ?_
      rintro e2 w9 ⟨rfl, hb9⟩
      clear hAw
      have HB9 : Hid (Below H w w9) := HB3.out.trans (hb9.mono HH3.out)
      clear hb9
      go_wp2_with fail
      go_ret
      exact ⟨rfl, by have h := HB9.out; rw [HH.out] at h; exact h⟩
    · have t0 := tot_each (LL := [ls, [Tv.l1 r k e us more]]) 2 hb1 0 (by decide)
      have t1 := tot_each (LL := [ls, [Tv.l1 r k e us more]]) 2 hb1 1 (by decide)
      have HN : Hid (n ≤ 60) := by show _ ≤ _; rw [← HL.out.len]; exact Nat.le_trans t0.2 hb2
      have HE : Hid (∀ j, j < n → (ls.getD j .z0).bl ≤ 16384 ∧ (ls.getD j .z0).kl ≤ 16384 ∧ (ls.getD j .z0).ll ≤ 4096) := fun j hj => sz_each (ls := ls) ls.length t0.1 j (by rw [HL.out.len]; exact hj)
      have HK : Hid (k ≤ 4096) := (sz_each (ls := [Tv.l1 r k e us more]) 1 t1.1 0 (by decide)).2.2
      have hBg := begun_any w3
      obtain ⟨L, HLL⟩ : ∃ z, Hid (z = w3.heap.size) := ⟨_, rfl⟩
      rw [← HLL.out] at hBg
      have HHL : Hid (H ≤ L) := by rw [HLL.out]; exact HH3.out
      clear t0 t1 hb1 hb2 HBT hAw
      go_wp2_with fail
      refine hBg.mono ?_
      rintro e2 w4 ⟨g, gt, rfl, T4, hb4⟩
      clear hBg
      obtain ⟨own4, T4⟩ := T4.x
      have HI4 : Hid (RfI w3 w4 L g gt own4 0 mq1 ⟨0, 0, ⟨1, [], []⟩⟩) := ⟨T4, mq1_liv, mq1_cal, mq1_ok, Nat.zero_le _, hb4⟩
      clear T4 hb4
      go_wp2_with fail
      go_loopw [38] (fun ix wr => ∃ (kk : Nat) (ow : Nat → Nat) (mm : PD) (tt : TP), kk ≤ n ∧ ix = .int .i64 kk ∧ RfI w3 wr L g gt ow kk mm tt) (fun ix _ => n - (intOf ix).toNat)
      case atStart => exact ⟨0, own4, mq1, _, Nat.zero_le _, rfl, HI4.out⟩
      case round =>
        obtain ⟨kk, ow, mm, tt, hkk, rfl, hI⟩ := hrel
        by_cases hkn : kk < n
        · have hki : (kk : Int) < (n : Int) := by omega
          obtain ⟨lb, lo, rfl, hcl⟩ := HL.out.cells (by omega)
          have hbw : Below H w wr := HB3.out.trans (hI.bel.mono HHL.out)
          have hat := (hcl kk hkn).below hbw (by rw [HH.out]; exact World.block_lt_of_cell? _ _ (hcl kk hkn).c0)
          have hrd := HL.out.rd kk hkn
          have hE := HE.out kk hkn
          have hn60 := HN.out
          obtain ⟨x, Hx⟩ : ∃ z, Hid (z = ls.getD kk .z0) := ⟨_, rfl⟩
          rw [← Hx.out] at hat hrd hE
          have HI : Hid (RfI w3 wr L g gt ow kk mm tt) := hI
          have HAT : Hid (x.at wr lb (lo + kk * 5)) := hat
          have HRD : Hid (x.rd w) := hrd
          obtain ⟨c0, c1, c2, c3, c4⟩ := hat
          have hLw := hI.ts.o.lw
          have hbx := below_alloc wr (.cells #[.int .i64 x.op, .int .i64 x.n, .slice x.bq x.bl x.bc, .slice x.lq x.ll x.lc, .slice x.kq x.kl x.kc] 52)
          have hbw2 : Below H w (wr.alloc (.cells #[.int .i64 x.op, .int .i64 x.n, .slice x.bq x.bl x.bc, .slice x.lq x.ll x.lc, .slice x.kq x.kl x.kc] 52)) := hbw.trans (hbx.mono (Nat.le_trans HHL.out hLw))
          rw [HH.out] at hbw2
          have hP := hI.put (by omega) hbx x.bq x.bl x.bc x.b (hrd.b.below' hbw2) hrd.y (fun a ea h0 => Nat.lt_of_lt_of_le (hrd.b.ltb a ea h0) (by rw [← HH.out]; exact HHL.out))
          have hSv := (hI.below hbx).save (by omega) x.bq x.bl x.bc x.b (hrd.b.below' hbw2) hrd.y x.lq x.ll x.lc x.us x.l (hrd.v.below hbw2) (hrd.s.below hbw2) hE.2.2 hrd.z
          clear hI hcl hbw hrd hE hLw hbx hbw2
          go_wp2_with fail
          · refine hSv.mono ?_
            rintro e3 w6 ⟨rfl, ow6, hI6, _, _⟩
            clear hSv hP
            have HI6 : Hid (∃ ow mm tt, RfI w3 w6 L g gt ow (kk + 1) mm tt) := ⟨_, _, _, hI6⟩
            clear hI6
            go_wp2_with fail
            go_roundw
            case rel =>
              obtain ⟨o6, m6, t6, h6⟩ := HI6.out
              exact ⟨kk + 1, o6, m6, t6, by omega, by go_num, h6⟩
            case measure => simp [intOf]; omega
          · refine hP.mono ?_
            rintro e3 w6 ⟨rfl, ow6, hI6, _, _⟩
            clear hSv hP
            have HI6 : Hid (∃ ow mm tt, RfI w3 w6 L g gt ow (kk + 1) mm tt) := ⟨_, _, _, hI6⟩
            clear hI6
            go_wp2_with fail
            go_roundw
            case rel =>
              obtain ⟨o6, m6, t6, h6⟩ := HI6.out
              exact ⟨kk + 1, o6, m6, t6, by omega, by go_num, h6⟩
            case measure => simp [intOf]; omega
        · have hki : ¬ (kk : Int) < (n : Int) := by omega
          have hn60 := HN.out
          have hk60 : kk ≤ 60 := by omega
          have hSy := hI.sync (by omega)
          clear hI hkn hkk hn60
          go_wp2_with fail
          refine hSy.mono ?_
          rintro e3 w5 ⟨rfl, o5, hI5⟩
          clear hSy
          generalize (syT mm tt).2.2 = t5 at hI5
          generalize (syT mm tt).2.1 = m5 at hI5
          have hBs := Base_S w5 L 0 g gt m5 t5 hI5.ts.o (by have := hI5.liv.base.1; omega)
          have HI5 : Hid (RfI w3 w5 L g gt o5 (kk + 1) m5 t5) := hI5
          clear hI5
          go_wp2_with fail
          refine hBs.mono ?_
          rintro e3 w6 ⟨⟨pB, cB, rfl, hB6, hB6n⟩, hb6⟩
          clear hBs
          have hRc := Recs_S w6 L 0 g gt m5 t5 (HI5.out.ts.below hb6).o (by have := HI5.out.few; omega) (fun d hd => by have := (HI5.out.liv.recs d hd).2; omega)
          have HB6 : Hid (Rd .u8 w6 pB t5.r.base.length cB t5.r.base ∧ (∀ x, pB = some x → 0 < t5.r.base.length → w5.heap.size ≤ x.block) ∧ Below w5.heap.size w5 w6) := ⟨hB6, hB6n, hb6⟩
          clear hB6 hB6n hb6
          go_wp2_with fail
          refine hRc.mono ?_
          rintro e3 w7 ⟨⟨pW, cW, rfl, hW7, hW7n⟩, hb7⟩
          clear hRc
          have hb57 : Below w5.heap.size w5 w7 := HB6.out.2.2.trans (hb7.mono HB6.out.2.2.size)
          have HTo : Hid (Told2 w7 o5 g t5.r pB cB pW cW) := ⟨HB6.out.1.below' hb7, fun x e h0 => HI5.out.ts.new (HB6.out.2.1 x e h0), hW7, fun x e h0 => HI5.out.ts.new (Nat.le_trans HB6.out.2.2.size (hW7n x e h0))⟩
          have hbw7 : Below H w w7 := HB3.out.trans ((HI5.out.below hb57).bel.mono HHL.out)
          rw [HH.out] at hbw7
          have hP := HI5.out.put (by omega) hb57 q m d bs (HQ.out.below' hbw7) HBY.out (fun a ea h0 => Nat.lt_of_lt_of_le (HQ.out.ltb a ea h0) (by rw [← HH.out]; exact HHL.out))
          clear hW7 hW7n hb7 hb57 hbw7
          obtain ⟨c1, HC1⟩ : ∃ z, Hid (z = (ptT m5 t5 bs).1) := ⟨_, rfl⟩
          rw [← HC1.out] at hP
          go_wp2_with fail
          refine hP.mono ?_
          rintro e3 w8 ⟨rfl, o8, hI8, ho8, hc8⟩
          clear hP
          have HTo8 : Hid (Told2 w8 o8 g t5.r pB cB pW cW) := HTo.out.ch hc8 ho8
          have HBW : Hid (Below H w w8) := HB3.out.trans (hI8.bel.mono HHL.out)
          clear ho8 hc8
          by_cases hc1 : c1 = 0
          · clear HC1
            subst hc1
            have hAw := awake_any w8
            clear hI8
            go_wp2_with fail
            refine hAw.mono ?_
            rintro e9 w99 ⟨rfl, hb99⟩
            clear hAw
            have HB99 : Hid (Below H w w99) := HBW.out.trans (hb99.mono (Nat.le_trans (by rw [HH.out]; exact Nat.le_refl _) HBW.out.size))
            clear hb99
            go_wp2_with fail
            go_ret
            exact ⟨rfl, by have h := HB99.out; rw [HH.out] at h; exact h⟩
          · have hc1n : (c1 == 0) = false := beq_false_of_ne hc1
            have e5 : (ptT m5 t5 bs).2.2 = t5 := ptT_no (by rw [← HC1.out]; exact hc1)
            rw [e5] at hI8
            generalize (ptT m5 t5 bs).2.1 = m8 at hI8
            have hbw8 := HBW.out
            rw [HH.out] at hbw8
            have hSv := hI8.save (by omega) q m d bs (HQ.out.below' hbw8) HBY.out r k e us more (HV.out.below hbw8) (HS.out.below hbw8) HK.out HZ.out
            obtain ⟨c2, HC2⟩ : ∃ z, Hid (z = (svT m8 t5 bs more).1) := ⟨_, rfl⟩
            rw [← HC2.out] at hSv
            clear hI8 e5 hbw8 HC1 HBW
            go_wp2_with fail
            refine hSv.mono ?_
            rintro e3 w9 ⟨rfl, o9, hI9, ho9, hc9⟩
            clear hSv
            have HTo9 : Hid (Told2 w9 o9 g t5.r pB cB pW cW) := HTo8.out.ch hc9 ho9
            have HBW : Hid (Below H w w9) := HB3.out.trans (hI9.bel.mono HHL.out)
            clear ho9 hc9
            by_cases hc2 : c2 = 0
            · clear HC2
              subst hc2
              have hAw := awake_any w9
              clear hI9
              go_wp2_with fail
              refine hAw.mono ?_
              rintro e9 w99 ⟨rfl, hb99⟩
              clear hAw
              have HB99 : Hid (Below H w w99) := HBW.out.trans (hb99.mono (Nat.le_trans (by rw [HH.out]; exact Nat.le_refl _) HBW.out.size))
              clear hb99
              go_wp2_with fail
              go_ret
              exact ⟨rfl, by have h := HB99.out; rw [HH.out] at h; exact h⟩
            · have hc2n : (c2 == 0) = false := beq_false_of_ne hc2
              have e6 : (svT m8 t5 bs more).2.2 = t5 := svT_no (by rw [← HC2.out]; exact hc2)
              rw [e6] at hI9
              generalize (svT m8 t5 bs more).2.1 = m9 at hI9
              have HI9 : Hid (RfI w3 w9 L g gt o9 (kk + 1 + 1 + 1) m9 t5) := hI9
              have hCl := Clone_S w9 L 0 1 g m9 _ hI9.ts.o.t.d hI9.ok (by omega)
              clear hI9 e6 HC2
              go_wp2_with fail
              refine hCl.mono ?_
              rintro e3 w10 ⟨gc, rfl, hD10, hb10⟩
              clear hCl
              have hOp := Open_whole w10 L 1 gc m9 _ hD10 HI9.out.fit (by omega) HI9.out.liv.bys t5.file t5.r HI9.out.liv.cnt
              have HB10 : Hid (Below w9.heap.size w9 w10) := hb10
              clear hD10 hb10
              go_wp2_with fail
              refine hOp.mono ?_
              rintro e3 w11 ⟨gu, rfl, hU, hb11⟩
              clear hOp
              have hb911 := HB10.out.trans (hb11.mono HB10.out.size)
              have HU : Hid (TSo w11 L 1 gc gu m9 ⟨t5.file, t5.r.recs.length, t5.r⟩) := hU
              have HT : Hid (TSo w11 L 0 g gt m9 t5) := (HI9.out.ts.below hb911).o
              have HBB : Hid (Rd .u8 w11 pB t5.r.base.length cB t5.r.base) := HTo9.out.b.below' hb911
              have HWW : Hid (RdV w11 pW t5.r.recs.length cW (strs t5.r.recs)) := HTo9.out.v.below hb911
              have HBs : Hid (t5.r.base.length ≤ 8176 ∧ By t5.r.base) := HI9.out.liv.base
              have HFw : Hid (t5.r.recs.length ≤ 1099511627776) := by show _ ≤ _; have := HI9.out.few; omega
              have HRc : Hid (∀ d ∈ t5.r.recs, d.length ≤ 1099511627776) := fun d hd => by have := (HI9.out.liv.recs d hd).2; omega
              have HBW2 : Hid (Below H w w11) := HBW.out.trans (hb911.mono (Nat.le_trans (by rw [HH.out]; exact Nat.le_refl _) HBW.out.size))
              have HHs : Hid (H ≤ w11.heap.size) := Nat.le_trans (by rw [HH.out]; exact Nat.le_refl _) HBW2.out.size
              clear hU hb11 hb911 HBW HTo9 HTo8 HTo HI9 HB10
              have hBs := Base_S w11 L 0 g gt m9 t5 HT.out (by have := HBs.out.1; omega)
              obtain ⟨nB, HnB⟩ : ∃ z, Hid (z = t5.r.base.length) := ⟨_, rfl⟩
              obtain ⟨nW, HnW⟩ : ∃ z, Hid (z = t5.r.recs.length) := ⟨_, rfl⟩
              rw [← HnB.out] at hBs HBB
              rw [← HnB.out]
              rw [← HnW.out] at HWW
              rw [← HnW.out]
              go_wp2_with fail
              refine hBs.mono ?_
              rintro e3 w12 ⟨⟨p12, c12, rfl, hR12, _⟩, hb12⟩
              clear hBs
              have hEq := equal_same p12 pB nB c12 nB cB t5.r.base w12 hR12 (HBB.out.below' hb12) HBs.out.2
              have HB12 : Hid (Below w11.heap.size w11 w12) := hb12
              clear hR12 hb12
              go_wp2_with fail
              refine hEq.mono ?_
              rintro e3 w13 ⟨rfl, hw13⟩
              subst hw13
              clear hEq
              have w13B : Hid (Below w11.heap.size w11 w13) := HB12.out
              have hRc := Recs_S w13 L 0 g gt m9 t5 (HT.out.below w13B.out) HFw.out HRc.out
              rw [← HnW.out, strs_txb] at hRc
              go_wp2_with fail
              refine hRc.mono ?_
              rintro e3 w14 ⟨⟨pw14, cw14, rfl, hRw14, _⟩, hbw14⟩
              clear hRc
              have hEq := eqStr_any pw14 pW nW cw14 nW cW (txb t5.r.recs) (txb t5.r.recs) w14 hRw14 (by rw [← strs_txb]; exact (HWW.out.below w13B.out).below hbw14) (by rw [HnW.out]; exact HFw.out) (by rw [HnW.out]; exact HFw.out)
              rw [sameT_yes rfl] at hEq
              have w140 : Hid (Below w11.heap.size w11 w14) := w13B.out.trans (hbw14.mono w13B.out.size)
              clear hRw14 hbw14
              go_wp2_with fail
              refine hEq.mono ?_
              rintro e3 w14e ⟨rfl, hbw14e⟩
              clear hEq
              have w14eB : Hid (Below w11.heap.size w11 w14e) := w140.out.trans (hbw14e.mono w140.out.size)
              clear hbw14e
              have hBs := Base_S w14e L 1 gc gu m9 ⟨t5.file, t5.r.recs.length, t5.r⟩ (HU.out.below w14eB.out) (by show t5.r.base.length ≤ _; have := HBs.out.1; omega)
              dsimp only at hBs
              rw [← HnB.out] at hBs
              go_wp2_with fail
              refine hBs.mono ?_
              rintro e3 w15 ⟨⟨p15, c15, rfl, hR15, _⟩, hb15⟩
              clear hBs
              have hEq := equal_same p15 pB nB c15 nB cB t5.r.base w15 hR15 ((HBB.out.below' w14eB.out).below' hb15) HBs.out.2
              have w15B : Hid (Below w11.heap.size w11 w15) := w14eB.out.trans (hb15.mono w14eB.out.size)
              clear hR15 hb15
              go_wp2_with fail
              refine hEq.mono ?_
              rintro e3 w16 ⟨rfl, hw16⟩
              subst hw16
              clear hEq
              have w16B : Hid (Below w11.heap.size w11 w16) := w15B.out
              have hRc := Recs_S w16 L 1 gc gu m9 ⟨t5.file, t5.r.recs.length, t5.r⟩ (HU.out.below w16B.out) HFw.out HRc.out
              dsimp only at hRc
              rw [← HnW.out, strs_txb] at hRc
              go_wp2_with fail
              refine hRc.mono ?_
              rintro e3 w17 ⟨⟨pw17, cw17, rfl, hRw17, _⟩, hbw17⟩
              clear hRc
              have hEq := eqStr_any pw17 pW nW cw17 nW cW (txb t5.r.recs) (txb t5.r.recs) w17 hRw17 (by rw [← strs_txb]; exact (HWW.out.below w16B.out).below hbw17) (by rw [HnW.out]; exact HFw.out) (by rw [HnW.out]; exact HFw.out)
              rw [sameT_yes rfl] at hEq
              have w170 : Hid (Below w11.heap.size w11 w17) := w16B.out.trans (hbw17.mono w16B.out.size)
              clear hRw17 hbw17
              go_wp2_with fail
              refine hEq.mono ?_
              rintro e3 w17e ⟨rfl, hbw17e⟩
              clear hEq
              have w17eB : Hid (Below w11.heap.size w11 w17e) := w170.out.trans (hbw17e.mono w170.out.size)
              clear hbw17e
              have hAw := awake_any w17e
              go_wp2_with fail
              refine hAw.mono ?_
              rintro e9 w99 ⟨rfl, hb99⟩
              clear hAw
              have HB99 : Hid (Below H w w99) := HBW2.out.trans ((w17eB.out.mono HHs.out).trans (hb99.mono (Nat.le_trans HHs.out w17eB.out.size)))
              clear hb99
              go_wp2_with fail
              go_ret
              exact ⟨rfl, by have h := HB99.out; rw [HH.out] at h; exact h⟩

end Go.Proofs.Ytpjhadaiodnnaaa.M
