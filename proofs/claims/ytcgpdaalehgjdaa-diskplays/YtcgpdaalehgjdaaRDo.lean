/-
  Own text: contracts of the reference's Clear, Sync, Crash, Arm, Read.
-/
import Derived.Test.YtcgpdaalehgjdaaRFall
import Derived.Lib.ConvBytes
namespace Go.Proofs.Ytcgpdaalehgjdaa.M
open Go.ChangeShapes Go.WideShapes Go.ChangeAt Go.RowKit

/-- The reference's disk, and what it is to keep. -/
structure RD (w : World) (g : Nat) (m : PD) (k : Sl) : Prop where
  rc : RC w g m k
  keep : Rd .i64 w k.p k.n k.c m.keep
  ne : ∀ x, k.p = some x → 0 < k.n → x.block ≠ g

/-- Behind a call: what is to be kept is as it was, or new. -/
def RAfter (g : Nat) (k : Sl) (w w' : World) (m' : PD) : Prop := ∃ k', RD w' g m' k' ∧ (∀ x, k'.p = some x → 0 < k'.n → k' = k ∨ w.heap.size ≤ x.block) ∧ Ch (fun j => j = g) w w'

theorem RD.below {w w' : World} {g : Nat} {m : PD} {k : Sl} (h : RD w g m k) (hb : Below w.heap.size w w') : RD w' g m k := ⟨h.rc.below hb, h.keep.below' hb, h.ne⟩

theorem RAfter.before {g : Nat} {k : Sl} {w w1 w' : World} {m' : PD} (hb : Below w.heap.size w w1) (h : RAfter g k w1 w' m') : RAfter g k w w' m' := by
  obtain ⟨k', h1, h2, h3⟩ := h
  exact ⟨k', h1, fun x e h0 => (h2 x e h0).imp id fun h => Nat.le_trans hb.size h, (Ch.of_below hb _).trans h3⟩

theorem RAfter.same {g : Nat} {k : Sl} {w w' : World} {m : PD} (h : RD w g m k) (hb : Below w.heap.size w w') : RAfter g k w w' m :=
  ⟨k, h.below hb, fun _ _ _ => Or.inl rfl, Ch.of_below hb _⟩

/-- Its own block changed. -/
theorem RAfter.mend {g : Nat} {k : Sl} {w w' : World} {m m' : PD} (h : RD w g m k) (hc : Ch (fun j => j = g) w w') (hr : RC w' g m' k) (hk : m'.keep = m.keep) : RAfter g k w w' m' :=
  ⟨k, ⟨hr, by rw [hk]; exact h.keep.ch0 hc h.ne, h.ne⟩, fun _ _ _ => Or.inl rfl, hc⟩

/-- Without power. -/
theorem RAfter.fell {g : Nat} {k : Sl} {w w' : World} {m' : PD} (hc : Ch (fun j => j = g) w w') (hr : RC w' g m' ⟨none, 0, 0⟩) (hk : m'.keep = []) : RAfter g k w w' m' :=
  ⟨⟨none, 0, 0⟩, ⟨hr, by rw [hk]; exact Rd.empty _ _ _ _ (fun _ => rfl), (fun _ e _ => by cases e)⟩, (fun _ e _ => by cases e), hc⟩

theorem act_of0 (m : PD) (n : Nat) (X : Nat → Nat → PF) (h : m.left = 0) : m.act n X = { m with f := X n } := if_pos h
theorem act_of1 (m : PD) (n : Nat) (X : Nat → Nat → PF) (h : m.left ≠ 0) (h2 : m.left ≤ n) : m.act n X = ({ m with f := X m.left } : PD).fall m.keep := (if_neg h).trans (if_pos h2)
theorem act_of2 (m : PD) (n : Nat) (X : Nat → Nat → PF) (h : m.left ≠ 0) (h2 : ¬ m.left ≤ n) : m.act n X = { m with left := m.left - n, f := X n } := (if_neg h).trans (if_neg h2)

/-- What was synced is a beginning of what is told. -/
def PD.pre (m : PD) : Prop := ∀ i, i < 8 → (m.f i).cl = false → (m.f i).lasts <+: (m.f i).told

set_option maxRecDepth 20000 in
set_option maxHeartbeats 1000000 in
theorem rClear_ok (w : World) (g : Nat) (m : PD) (k : Sl) (h : RD w g m k) (s : Nat) (hm : m.ok s) (hs : s ≤ 549755813888) (hp : m.pre) (hw : m.down = false) (i : Nat) (hi : i < 8) :
    Calls Try.prog 34 #[.pointer (some ⟨g, 0, none⟩), .int .i64 i] w fun e w' => e = .returned (.int .i64 (goneE (m.gone 1))) ∧ RAfter g k w w' (m.clearAt i) := by
  have hM := rmay_any w g m k h.rc i
  rw [hw, if_neg (show ¬ (false = true) by decide), if_neg (by omega)] at hM
  have hnn : ∀ j, j < 8 → (upP m.f i (⟨[], (m.f i).lasts, true⟩) j).told.length ≤ 549755813888 := fun j hj => Nat.le_trans (hm.up (Nat.le_refl _) i (⟨[], (m.f i).lasts, true⟩) (Nat.zero_le _) (hm.lasts i hi) j hj).1 hs
  have hpp : ∀ j, j < 8 → (upP m.f i (⟨[], (m.f i).lasts, true⟩) j).cl = false → (upP m.f i (⟨[], (m.f i).lasts, true⟩) j).lasts <+: (upP m.f i (⟨[], (m.f i).lasts, true⟩) j).told := fun j hj => by
    by_cases e : j = i
    · rw [e, upP_same]
      intro e2
      cases e2
    · rw [upP_other _ _ e]
      exact hp j hj
  by_cases h0 : m.left = 0
  · have HA : Hid (m.clearAt i = { m with f := upP m.f i (⟨[], (m.f i).lasts, true⟩) }) := act_of0 m 1 _ h0
    have HG : Hid (m.gone 1 = false) := decide_eq_false (by omega)
    have hB := rburn_none w g m k h.rc h0 1
    have c0 := h.rc.told hi
    have f0 := h.rc.free (i * 3)
    have hR1 : RC (w.setCell ⟨g, i * 3, none⟩ (.string ⟨#[]⟩)) g _ k := h.rc.setTold hi []
    have c2 := hR1.cl hi
    have f2 := h.rc.free (i * 3 + 2)
    have hRS := hR1.setCl hi true
    dsimp only at hRS c2
    rw [upP_same] at c2
    rw [upP_same, upP_up] at hRS
    dsimp only at hRS c2
    have hcS := (Ch.cells2 w g (i * 3) (i * 3 + 2) (.string ⟨#[]⟩) (.bool true))
    clear hR1
    have hfin := RAfter.mend h hcS hRS rfl
    clear hRS h hp hpp
    generalize (m.f i) = fl at *
    obtain ⟨ft, fls, fc⟩ := fl
    dsimp only at *
    go_enter Try.func34, Try.ntmps34
    go_wp2_with fail
    refine hM.mono ?_
    rintro e w1 ⟨rfl, rfl⟩
    go_wp2_with fail
    refine hB.mono ?_
    rintro e w2 ⟨rfl, rfl⟩
    go_wp2_with fail
    go_ret
    exact ⟨by rw [HG.out]; rfl, by rw [HA.out]; exact hfin⟩
  · by_cases h1 : m.left ≤ 1
    · have HA : Hid (m.clearAt i = ({ m with f := upP m.f i (⟨[], (m.f i).lasts, true⟩) } : PD).fall m.keep) := act_of1 m 1 _ h0 h1
      have HG : Hid (m.gone 1 = true) := decide_eq_true (by omega)
      have hB := rburn_out w g m k h.rc (by omega) 1 h1
      have c0 := h.rc.told hi
      have f0 := h.rc.free (i * 3)
      have hR1 : RC (w.setCell ⟨g, i * 3, none⟩ (.string ⟨#[]⟩)) g _ k := h.rc.setTold hi []
      have c2 := hR1.cl hi
      have f2 := h.rc.free (i * 3 + 2)
      have hRS := hR1.setCl hi true
      dsimp only at hRS c2
      rw [upP_same] at c2
      rw [upP_same, upP_up] at hRS
      dsimp only at hRS c2
      have hcS := (Ch.cells2 w g (i * 3) (i * 3 + 2) (.string ⟨#[]⟩) (.bool true))
      clear hR1
      have hrk := h.keep.ch0 hcS h.ne
      have hkl := h.keep.len
      have hmk := hm.keep
      have hF := rfall_any _ g _ k hRS k.p k.n k.c m.keep hrk (by omega) h.ne hnn hpp
      have hck := hRS.keep
      clear hRS h hp hpp hrk
      generalize (m.f i) = fl at *
      obtain ⟨ft, fls, fc⟩ := fl
      obtain ⟨k1, k2, k3⟩ := k
      dsimp only at *
      go_enter Try.func34, Try.ntmps34
      go_wp2_with fail
      refine hM.mono ?_
      rintro e w1 ⟨rfl, rfl⟩
      go_wp2_with fail
      refine hB.mono ?_
      rintro e w2 ⟨rfl, rfl⟩
      go_wp2_with fail
      refine hF.mono ?_
      rintro e w3 ⟨rfl, hR3, hc3⟩
      have hfin := RAfter.fell (k := ⟨k1, k2, k3⟩) (hcS.trans hc3) hR3 rfl
      clear hR3
      go_wp2_with fail
      go_ret
      exact ⟨by rw [HG.out]; rfl, by rw [HA.out]; exact hfin⟩
    · have HA : Hid (m.clearAt i = { m with left := m.left - 1, f := upP m.f i (⟨[], (m.f i).lasts, true⟩) }) := act_of2 m 1 _ h0 h1
      have HG : Hid (m.gone 1 = false) := decide_eq_false (by omega)
      have hB := rburn_on w g m k h.rc 1 (by omega) hm.left
      have hL := h.rc.setLeft (m.left - 1)
      have hcL := Ch.setCell w ⟨g, 26, none⟩ (.int .i64 ((m.left - 1 : Nat) : Int))
      dsimp only at hcL
      have c0 := hL.told hi
      have f0 := hL.free (i * 3)
      have hR1 : RC ((w.setCell ⟨g, 26, none⟩ (.int .i64 ((m.left - 1 : Nat) : Int))).setCell ⟨g, i * 3, none⟩ (.string ⟨#[]⟩)) g _ k := hL.setTold hi []
      have c2 := hR1.cl hi
      have f2 := hL.free (i * 3 + 2)
      have hRS := hR1.setCl hi true
      dsimp only at hRS c2
      rw [upP_same] at c2
      rw [upP_same, upP_up] at hRS
      dsimp only at hRS c2
      have hcS := (Ch.cells2 (w.setCell ⟨g, 26, none⟩ (.int .i64 ((m.left - 1 : Nat) : Int))) g (i * 3) (i * 3 + 2) (.string ⟨#[]⟩) (.bool true))
      clear hR1
      have hfin := RAfter.mend h (hcL.trans hcS) hRS rfl
      clear hRS h hp hpp hL
      generalize (m.f i) = fl at *
      obtain ⟨ft, fls, fc⟩ := fl
      dsimp only at *
      generalize hW : w.setCell ⟨g, 26, none⟩ (.int .i64 ((m.left - 1 : Nat) : Int)) = wL at *
      go_enter Try.func34, Try.ntmps34
      go_wp2_with fail
      refine hM.mono ?_
      rintro e w1 ⟨rfl, rfl⟩
      go_wp2_with fail
      refine hB.mono ?_
      rintro e w2 ⟨rfl, rfl⟩
      go_wp2_with fail
      go_ret
      exact ⟨by rw [HG.out]; rfl, by rw [HA.out]; exact hfin⟩

set_option maxRecDepth 20000 in
set_option maxHeartbeats 1000000 in
theorem rSync_ok (w : World) (g : Nat) (m : PD) (k : Sl) (h : RD w g m k) (s : Nat) (hm : m.ok s) (hs : s ≤ 549755813888) (hp : m.pre) (hw : m.down = false) (i : Nat) (hi : i < 8) :
    Calls Try.prog 35 #[.pointer (some ⟨g, 0, none⟩), .int .i64 i] w fun e w' => e = .returned (.int .i64 (goneE (m.gone 1))) ∧ RAfter g k w w' (m.syncAt i) := by
  have hM := rmay_any w g m k h.rc i
  rw [hw, if_neg (show ¬ (false = true) by decide), if_neg (by omega)] at hM
  have hnn : ∀ j, j < 8 → (upP m.f i (⟨(m.f i).told, (m.f i).told, false⟩) j).told.length ≤ 549755813888 := fun j hj => Nat.le_trans (hm.up (Nat.le_refl _) i (⟨(m.f i).told, (m.f i).told, false⟩) (hm.told i hi) (hm.told i hi) j hj).1 hs
  have hpp : ∀ j, j < 8 → (upP m.f i (⟨(m.f i).told, (m.f i).told, false⟩) j).cl = false → (upP m.f i (⟨(m.f i).told, (m.f i).told, false⟩) j).lasts <+: (upP m.f i (⟨(m.f i).told, (m.f i).told, false⟩) j).told := fun j hj => by
    by_cases e : j = i
    · rw [e, upP_same]
      exact fun _ => List.prefix_refl _
    · rw [upP_other _ _ e]
      exact hp j hj
  by_cases h0 : m.left = 0
  · have HA : Hid (m.syncAt i = { m with f := upP m.f i (⟨(m.f i).told, (m.f i).told, false⟩) }) := act_of0 m 1 _ h0
    have HG : Hid (m.gone 1 = false) := decide_eq_false (by omega)
    have hB := rburn_none w g m k h.rc h0 1
    have c0 := h.rc.told hi
    have c1 := h.rc.lasts hi
    have f1 := h.rc.free (i * 3 + 1)
    have hR1 := h.rc.setLasts hi (m.f i).told
    have c2 := hR1.cl hi
    have f2 := h.rc.free (i * 3 + 2)
    have f3 := hR1.free (i * 3 + 2)
    have hRS := (hR1.setCl hi false).below ((Below.refl _ _).drew)
    dsimp only at hRS c2
    rw [upP_same] at c2
    rw [upP_same, upP_up] at hRS
    dsimp only at hRS c2
    have hcS := (Ch.cells2 w g (i * 3 + 1) (i * 3 + 2) (.string (strOfNums (m.f i).told)) (.bool false)).trans (Ch.of_below ((Below.refl _ _).drew) _)
    clear hR1
    have hfin := RAfter.mend h hcS hRS rfl
    clear hRS h hp hpp
    generalize (m.f i) = fl at *
    obtain ⟨ft, fls, fc⟩ := fl
    dsimp only at *
    go_enter Try.func35, Try.ntmps35
    go_wp2_with fail
    refine hM.mono ?_
    rintro e w1 ⟨rfl, rfl⟩
    go_wp2_with fail
    refine hB.mono ?_
    rintro e w2 ⟨rfl, rfl⟩
    go_wp2_with fail
    go_region
    go_wp2_with fail
    go_ret
    exact ⟨by rw [HG.out]; rfl, by rw [HA.out]; exact hfin⟩
  · by_cases h1 : m.left ≤ 1
    · have HA : Hid (m.syncAt i = ({ m with f := upP m.f i (⟨(m.f i).told, (m.f i).told, false⟩) } : PD).fall m.keep) := act_of1 m 1 _ h0 h1
      have HG : Hid (m.gone 1 = true) := decide_eq_true (by omega)
      have hB := rburn_out w g m k h.rc (by omega) 1 h1
      have c0 := h.rc.told hi
      have c1 := h.rc.lasts hi
      have f1 := h.rc.free (i * 3 + 1)
      have hR1 := h.rc.setLasts hi (m.f i).told
      have c2 := hR1.cl hi
      have f2 := h.rc.free (i * 3 + 2)
      have f3 := hR1.free (i * 3 + 2)
      have hRS := (hR1.setCl hi false).below ((Below.refl _ _).drew)
      dsimp only at hRS c2
      rw [upP_same] at c2
      rw [upP_same, upP_up] at hRS
      dsimp only at hRS c2
      have hcS := (Ch.cells2 w g (i * 3 + 1) (i * 3 + 2) (.string (strOfNums (m.f i).told)) (.bool false)).trans (Ch.of_below ((Below.refl _ _).drew) _)
      clear hR1
      have hrk := h.keep.ch0 hcS h.ne
      have hkl := h.keep.len
      have hmk := hm.keep
      have hF := rfall_any _ g _ k hRS k.p k.n k.c m.keep hrk (by omega) h.ne hnn hpp
      have hck := hRS.keep
      clear hRS h hp hpp hrk
      generalize (m.f i) = fl at *
      obtain ⟨ft, fls, fc⟩ := fl
      obtain ⟨k1, k2, k3⟩ := k
      dsimp only at *
      go_enter Try.func35, Try.ntmps35
      go_wp2_with fail
      refine hM.mono ?_
      rintro e w1 ⟨rfl, rfl⟩
      go_wp2_with fail
      refine hB.mono ?_
      rintro e w2 ⟨rfl, rfl⟩
      go_wp2_with fail
      go_region
      go_wp2_with fail
      refine hF.mono ?_
      rintro e w3 ⟨rfl, hR3, hc3⟩
      have hfin := RAfter.fell (k := ⟨k1, k2, k3⟩) (hcS.trans hc3) hR3 rfl
      clear hR3
      go_wp2_with fail
      go_ret
      exact ⟨by rw [HG.out]; rfl, by rw [HA.out]; exact hfin⟩
    · have HA : Hid (m.syncAt i = { m with left := m.left - 1, f := upP m.f i (⟨(m.f i).told, (m.f i).told, false⟩) }) := act_of2 m 1 _ h0 h1
      have HG : Hid (m.gone 1 = false) := decide_eq_false (by omega)
      have hB := rburn_on w g m k h.rc 1 (by omega) hm.left
      have hL := h.rc.setLeft (m.left - 1)
      have hcL := Ch.setCell w ⟨g, 26, none⟩ (.int .i64 ((m.left - 1 : Nat) : Int))
      dsimp only at hcL
      have c0 := hL.told hi
      have c1 := hL.lasts hi
      have f1 := hL.free (i * 3 + 1)
      have hR1 := hL.setLasts hi (m.f i).told
      have c2 := hR1.cl hi
      have f2 := hL.free (i * 3 + 2)
      have f3 := hR1.free (i * 3 + 2)
      have hRS := (hR1.setCl hi false).below ((Below.refl _ _).drew)
      dsimp only at hRS c2
      rw [upP_same] at c2
      rw [upP_same, upP_up] at hRS
      dsimp only at hRS c2
      have hcS := (Ch.cells2 (w.setCell ⟨g, 26, none⟩ (.int .i64 ((m.left - 1 : Nat) : Int))) g (i * 3 + 1) (i * 3 + 2) (.string (strOfNums (m.f i).told)) (.bool false)).trans (Ch.of_below ((Below.refl _ _).drew) _)
      clear hR1
      have hfin := RAfter.mend h (hcL.trans hcS) hRS rfl
      clear hRS h hp hpp hL
      generalize (m.f i) = fl at *
      obtain ⟨ft, fls, fc⟩ := fl
      dsimp only at *
      generalize hW : w.setCell ⟨g, 26, none⟩ (.int .i64 ((m.left - 1 : Nat) : Int)) = wL at *
      go_enter Try.func35, Try.ntmps35
      go_wp2_with fail
      refine hM.mono ?_
      rintro e w1 ⟨rfl, rfl⟩
      go_wp2_with fail
      refine hB.mono ?_
      rintro e w2 ⟨rfl, rfl⟩
      go_wp2_with fail
      go_region
      go_wp2_with fail
      go_ret
      exact ⟨by rw [HG.out]; rfl, by rw [HA.out]; exact hfin⟩


set_option maxRecDepth 20000 in
theorem rCrash_ok (w : World) (g : Nat) (m : PD) (k : Sl) (h : RD w g m k) (s : Nat) (hm : m.ok s) (hs : s ≤ 549755813888) (hp : m.pre) (hw : m.down = false) (q : Option Addr) (l c : Nat) (keep : List Int) (hr : Rd .i64 w q l c keep) (hl : l ≤ 549755813888) (hq : ∀ x, q = some x → 0 < l → x.block ≠ g) :
    Calls Try.prog 36 #[.pointer (some ⟨g, 0, none⟩), .slice q l c] w fun e w' => e = .returned (.int .i64 0) ∧ RAfter g k w w' (m.fall keep) := by
  have hF := rfall_any w g m k h.rc q l c keep hr hl hq (fun i hi => Nat.le_trans (hm.told i hi) hs) hp
  have hd := h.rc.down
  rw [hw] at hd
  clear h hr
  go_enter Try.func36, Try.ntmps36
  go_wp2_with fail
  refine hF.mono ?_
  rintro e w2 ⟨rfl, hR, hc⟩
  have hfin := RAfter.fell (k := k) hc hR rfl
  clear hR
  go_wp2_with fail
  go_ret
  exact ⟨rfl, hfin⟩

set_option maxRecDepth 20000 in
theorem rCrash_down (w : World) (g : Nat) (m : PD) (k : Sl) (h : RD w g m k) (hw : m.down = true) (q : Option Addr) (l c : Nat) :
    Calls Try.prog 36 #[.pointer (some ⟨g, 0, none⟩), .slice q l c] w fun e w' => e = .returned (.int .i64 50) ∧ w' = w := by
  have hd := h.rc.down
  rw [hw] at hd
  clear h
  go_enter Try.func36, Try.ntmps36
  go_wp2_with fail
  go_ret
  exact ⟨rfl, rfl⟩

set_option maxRecDepth 20000 in
theorem rArm_down (w : World) (g : Nat) (m : PD) (k : Sl) (h : RD w g m k) (hw : m.down = true) (n : Int) (q : Option Addr) (l c : Nat) :
    Calls Try.prog 37 #[.pointer (some ⟨g, 0, none⟩), .int .i64 n, .slice q l c] w fun e w' => e = .returned (.int .i64 50) ∧ w' = w := by
  have hd := h.rc.down
  rw [hw] at hd
  clear h
  go_enter Try.func37, Try.ntmps37
  go_wp2_with fail
  go_ret
  exact ⟨rfl, rfl⟩

set_option maxRecDepth 20000 in
theorem rArm_low (w : World) (g : Nat) (m : PD) (k : Sl) (h : RD w g m k) (hw : m.down = false) (n : Int) (hn : n < 1) (q : Option Addr) (l c : Nat) :
    Calls Try.prog 37 #[.pointer (some ⟨g, 0, none⟩), .int .i64 n, .slice q l c] w fun e w' => e = .returned (.int .i64 1) ∧ w' = w := by
  have hd := h.rc.down
  rw [hw] at hd
  clear h
  go_enter Try.func37, Try.ntmps37
  go_wp2_with fail
  go_ret
  exact ⟨rfl, rfl⟩

set_option maxRecDepth 20000 in
set_option maxHeartbeats 1000000 in
theorem rArm_ok (w : World) (g : Nat) (m : PD) (k : Sl) (h : RD w g m k) (hw : m.down = false) (n : Nat) (hn : 1 ≤ n) (q : Option Addr) (l c : Nat) (ks : List Int) (hy : Rd .i64 w q l c ks) (hl : l ≤ 549755813888) (hq : ∀ x, q = some x → 0 < l → x.block ≠ g) :
    Calls Try.prog 37 #[.pointer (some ⟨g, 0, none⟩), .int .i64 n, .slice q l c] w fun e w' => e = .returned (.int .i64 0) ∧ RAfter g k w w' { m with left := n, keep := ks } := by
  obtain ⟨i0, hi0, hz0, hz1, hz2⟩ := info_parts infoI
  have hd := h.rc.down
  rw [hw] at hd
  have c26 := h.rc.left
  have f26 := h.rc.free 26
  have h1 := h.rc.setLeft n
  have hc1 := Ch.setCell w ⟨g, 26, none⟩ (.int .i64 (n : Int))
  dsimp only at hc1
  have hy1 := hy.ch0 hc1 hq
  have hlt := h.rc.lt
  have hsz := hc1.size
  generalize hW1 : w.setCell ⟨g, 26, none⟩ (.int .i64 (n : Int)) = w1 at *
  have hba : Below w1.heap.size w1 (w1.alloc (.cells #[] 3)) := (Below.refl _ _).alloc (Nat.le_refl _) _
  have ho : OwS .i64 3 (w1.alloc (.cells #[] 3)) w1.heap.size (some ⟨w1.heap.size, 0, none⟩) 0 0 [] := World.ownsRow_made w1 #[] 0 (Nat.le_refl _) (Nat.zero_le _) rfl
  have hya := hy1.below' hba
  have hRa := h1.below hba
  clear h h1 hy hy1
  go_enter Try.func37, Try.ntmps37
  go_wp2_with (refine wpList_app2 _ rfl (.tmp 18) (.tmp 19) 33 rfl .i64 3 i0 (.int .i64 0) 8 Try.underlying33 hi0 hz0 hz1 hz2 rfl w1.heap.size _ 0 0 [] rfl ho q l c ks rfl hya ?c1 ?c2 ?c3 ?_)
  case c1 => omega
  case c2 => unfold maxLen; omega
  case c3 => simp
  intro p' c' w' h2 hg
  have hch := hg.ch (fun k => w1.heap.size ≤ k) (fun x e => by cases e; exact Nat.le_refl _)
  have hb2 : Below w1.heap.size (w1.alloc (.cells #[] 3)) w' := hch.below (by simp) (fun k e => e)
  have hbt := hba.trans hb2
  have hR2 := hRa.ch hch (by show ¬ w1.heap.size ≤ g; omega)
  have c27 := hR2.keep
  have f27 := hR2.free 27
  have hR3 := hR2.setKeep p' l c' ks
  have hc3 := Ch.setCell w' ⟨g, 27, none⟩ (.slice p' l c')
  dsimp only at hc3
  have hfin : RAfter g k w (w'.setCell ⟨g, 27, none⟩ (.slice p' l c')) { m with left := n, keep := ks } :=
    ⟨⟨p', l, c'⟩, ⟨hR3, (h2.rd.ch0 hc3 (fun x e _ => by have := (h2.lt e).1; omega)), (fun x e _ => by have := (h2.lt e).1; omega)⟩, (fun x e _ => Or.inr (by have := (h2.lt e).1; omega)), (hc1.trans (Ch.of_below hbt _)).trans hc3⟩
  clear hg hch hR2 hR3 hRa hya ho h2
  obtain ⟨k1, k2, k3⟩ := k
  dsimp only at *
  go_wp2_with fail
  go_ret
  exact ⟨rfl, hfin⟩

end Go.Proofs.Ytcgpdaalehgjdaa.M
