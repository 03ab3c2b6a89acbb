/-
  Own text: what both have seen: the contract of Join.
-/
import Derived.Test.YtphdbpljgilcgaaDoorSPlain
namespace Go.Proofs.YtphdbpljgilcgaaDoor.M
open Go.ChangeShapes Go.WideShapes Go.ChangeAt Go.RowKit Go.Proofs
set_option linter.unusedSimpArgs false

theorem Fit.joi {a b : List Sn} (ha : Fit a) (hb : Fit b) : Fit (joi a b) := joi_all (p := fun s => s.n < 18446744073709551616) (fun _ _ _ h _ => h) b a ha hb

theorem Fit.front {b : List Sn} (h : Fit b) (k : Nat) : Fit (b.take k) := fun s hs => h s (List.mem_of_mem_take hs)

theorem take_snoc_sn {b : List Sn} {k : Nat} (h : k < b.length) : b.take (k + 1) = b.take k ++ [b.getD k .z0] := by
  rw [List.take_succ_eq_append_getElem h, getD_eq h]

set_option maxRecDepth 20000 in
set_option maxHeartbeats 2000000 in
theorem join_any (p : Option Addr) (n c : Nat) (A : List Sn) (p2 : Option Addr) (m d : Nat) (B : List Sn) (w : World) (ha : RdM w p n c A) (fa : Fit A) (hn : n ≤ 1099511627776) (hb : RdM w p2 m d B) (fb : Fit B) (hm : m ≤ 1099511627776) (hT : Tabs w) :
    Calls Tryd.prog 13 #[.slice p n c, .slice p2 m d] w fun e w' => ∃ p' c', e = .returned (.tuple #[.slice p' (joinL A B).1.length c', .int .i64 (joinL A B).2]) ∧ RdM w' p' (joinL A B).1.length c' (joinL A B).1 ∧ Below w.heap.size w w' := by
  have hla := ha.len
  have hlb := hb.len
  have cB := right_any p2 m d B w hb fb hm hT
  have cA := fun W (h : RdM W p n c A) (h2 : Tabs W) => right_any p n c A W h fa hn h2
  by_cases zB : rightL B = 0
  · by_cases zA : rightL A = 0
    · have mA := (right_iff A).1 zA
      have mB := (right_iff B).1 zB
      have h6a := mA.1
      have h6b := mB.1
      have HJ : Hid (joinL A B = if 6 < (joi A B).length then ([], 7) else (joi A B, 0)) := by unfold Hid joinL; rw [if_pos zB, if_pos zA]
      have HM : Hid (May A ∧ May B) := ⟨mA, mB⟩
      have hCl := fun W (h : RdM W p n c A) => cloneM_any p n c A W h hn
      have hS := fun (p' : Option Addr) (n' c' : Nat) (L : List Sn) (q : Nat) (v : Int) (W : World) (h1 : RdM W p' n' c' L) (h2 : Fit L) (h3 : q < 18446744073709551616) (h4 : n' ≤ 1099511627776) (h5 : Tabs W) => see_any p' n' c' L q v W h1 h2 h3 h4 h5
      rw [zB] at cB
      rw [zA] at cA
      clear zA zB mA mB
      go_enter Tryd.func13, Tryd.ntmps13
      go_wp2_with fail
      refine cB.mono ?_
      rintro e w1 ⟨rfl, hb1⟩
      have ha1 := ha.below hb1
      have hB1 := hb.below hb1
      have hT1 := hT.up hb1
      clear cB ha hb
      go_wp2_with fail
      refine (cA _ ha1 hT1).mono ?_
      rintro e w2 ⟨rfl, hb2⟩
      have ha2 := ha1.below hb2
      have hB2 := hB1.below hb2
      have hT2 := hT1.up hb2
      have hbb2 := hb1.trans (hb2.mono hb1.size)
      clear cA ha1 hB1 hT1 hb1 hb2
      go_wp2_with fail
      refine (hCl _ ha2).mono ?_
      rintro e w3 ⟨v3, rfl, hC3, hb3⟩
      have hB3 := hB2.below hb3
      have hT3 := hT2.up hb3
      have hbb3 := hbb2.trans (hb3.mono hbb2.size)
      obtain ⟨p3, c3, rfl, hR3⟩ := hC3.rd hla
      clear hCl ha2 hB2 hT2 hbb2 hb3 hC3
      go_wp2_with fail
      go_loopw [8, 27] (fun v i wr => ∃ (k : Nat) (p' : Option Addr) (c' n' : Nat), k ≤ m ∧ i = .int .i64 k ∧ v = .slice p' n' c' ∧ n' ≤ 6 ∧ RdM wr p' n' c' (joi A (B.take k)) ∧ Below w3.heap.size w3 wr) (fun _ i _ => m - (intOf i).toNat)
      case atStart => exact ⟨0, p3, c3, n, Nat.zero_le _, rfl, rfl, by omega, hR3, Below.refl _ _⟩
      case round =>
        clear hR3
        obtain ⟨k, p', c', n', hk, rfl, rfl, hn6, hR, hbw⟩ := hrel
        have hbb := hbb3.trans (hbw.mono hbb3.size)
        by_cases h : k < m
        · obtain ⟨b, o, rfl, hc⟩ := (hB3.below hbw).cells (by omega)
          obtain ⟨x0, x1, x2, x3, x4, x5, x6, x7, x8⟩ := hc k h
          have hfk := fb.get k
          have hk1 : (k : Int) < (m : Int) := by omega
          have hts := take_snoc_sn (b := B) (k := k) (by omega)
          have HT : Hid (joi A (B.take (k + 1)) = ins (joi A (B.take k)) (B.getD k .z0).n (B.getD k .z0).v) := by unfold Hid; rw [hts, joi_snoc]
          have hfr := joi_front A B (k + 1)
          have hMs := HM.out.2.2.2 (B.getD k .z0) (by rw [getD_eq (by omega)]; exact List.getElem_mem _)
          have hMv := HM.out.2.2.1.2 (B.getD k .z0) (by rw [getD_eq (by omega)]; exact List.getElem_mem _)
          have hMJ : May (joi A (B.take k)) := May.joi HM.out.1 (HM.out.2.front k) (by have := hR.len; omega)
          have hsee := see_may hMJ (B.getD k .z0).n (B.getD k .z0).v
          rw [hMs.1, decide_eq_true (show 0 ≤ (B.getD k .z0).v by omega), decide_eq_true hMs.2, if_pos (show (true && (true && true)) = true from rfl)] at hsee
          have HSE : Hid (seeL (joi A (B.take k)) (B.getD k .z0).n (B.getD k .z0).v = if 6 < (ins (joi A (B.take k)) (B.getD k .z0).n (B.getD k .z0).v).length then ([], 7) else (ins (joi A (B.take k)) (B.getD k .z0).n (B.getD k .z0).v, 0)) := hsee
          have hFJ : Fit (joi A (B.take k)) := Fit.joi fa (fb.front k)
          rw [HT.out] at hfr
          clear hsee hMs hMv hMJ hc hts
          generalize (B.getD k .z0).n = sn at *
          generalize (B.getD k .z0).v = sv at *
          generalize joi A (B.take k) = J at *
          obtain ⟨y0, y1, y2, y3, y4, y5, y6, y7, y8⟩ := box9 wr 36 sn sv
          have hba := below_alloc wr (.cells #[.int .u8 (bt (sn) 0), .int .u8 (bt (sn) 1), .int .u8 (bt (sn) 2), .int .u8 (bt (sn) 3), .int .u8 (bt (sn) 4), .int .u8 (bt (sn) 5), .int .u8 (bt (sn) 6), .int .u8 (bt (sn) 7), .int .i64 sv] 36)
          have hbV := hbw.trans (hba.mono hbw.size)
          have hRV := hR.below hba
          have hTV := hT3.up hbV
          have cS := hS p' n' c' J sn sv _ hRV hFJ hfk (by omega) hTV
          clear hba hS hR
          by_cases h6 : 6 < (ins J sn sv).length
          · have HS : Hid (joinL A B = ([], 7)) := by unfold Hid; rw [HJ.out, if_pos (by omega)]
            rw [HSE.out, if_pos h6] at cS
            have cS' : Calls Tryd.prog 11 #[.slice p' n' c', .agg #[.int .u8 (bt (sn) 0), .int .u8 (bt (sn) 1), .int .u8 (bt (sn) 2), .int .u8 (bt (sn) 3), .int .u8 (bt (sn) 4), .int .u8 (bt (sn) 5), .int .u8 (bt (sn) 6), .int .u8 (bt (sn) 7)], .int .i64 sv] (wr.alloc (.cells #[.int .u8 (bt (sn) 0), .int .u8 (bt (sn) 1), .int .u8 (bt (sn) 2), .int .u8 (bt (sn) 3), .int .u8 (bt (sn) 4), .int .u8 (bt (sn) 5), .int .u8 (bt (sn) 6), .int .u8 (bt (sn) 7), .int .i64 sv] 36)) fun e w' => ∃ q' d', e = .returned (.tuple #[.slice q' 0 d', .int .i64 7]) ∧ Below (wr.alloc (.cells #[.int .u8 (bt (sn) 0), .int .u8 (bt (sn) 1), .int .u8 (bt (sn) 2), .int .u8 (bt (sn) 3), .int .u8 (bt (sn) 4), .int .u8 (bt (sn) 5), .int .u8 (bt (sn) 6), .int .u8 (bt (sn) 7), .int .i64 sv] 36)).heap.size (wr.alloc (.cells #[.int .u8 (bt (sn) 0), .int .u8 (bt (sn) 1), .int .u8 (bt (sn) 2), .int .u8 (bt (sn) 3), .int .u8 (bt (sn) 4), .int .u8 (bt (sn) 5), .int .u8 (bt (sn) 6), .int .u8 (bt (sn) 7), .int .i64 sv] 36)) w' := cS.mono fun e w' ⟨q', d', h1, _, h3⟩ => ⟨q', d', h1, h3⟩
            clear cS HSE h6 HT hfr
            go_wp2_with fail
            refine cS'.mono ?_
            rintro e w7 ⟨q', d', rfl, hb7⟩
            have hB7 := hbV.trans (hb7.mono hbV.size)
            clear cS'
            go_wp2_with fail
            go_ret2
            exact ⟨none, 0, by rw [HS.out]; rfl, by rw [HS.out]; exact RdM.nilR _ _, hbb3.trans (hB7.mono hbb3.size)⟩
          · rw [HSE.out, if_neg h6] at cS
            have cS' : Calls Tryd.prog 11 #[.slice p' n' c', .agg #[.int .u8 (bt (sn) 0), .int .u8 (bt (sn) 1), .int .u8 (bt (sn) 2), .int .u8 (bt (sn) 3), .int .u8 (bt (sn) 4), .int .u8 (bt (sn) 5), .int .u8 (bt (sn) 6), .int .u8 (bt (sn) 7)], .int .i64 sv] (wr.alloc (.cells #[.int .u8 (bt (sn) 0), .int .u8 (bt (sn) 1), .int .u8 (bt (sn) 2), .int .u8 (bt (sn) 3), .int .u8 (bt (sn) 4), .int .u8 (bt (sn) 5), .int .u8 (bt (sn) 6), .int .u8 (bt (sn) 7), .int .i64 sv] 36)) fun e w' => ∃ q' d' n2, e = .returned (.tuple #[.slice q' n2 d', .int .i64 0]) ∧ n2 ≤ 6 ∧ RdM w' q' n2 d' (ins J sn sv) ∧ Below (wr.alloc (.cells #[.int .u8 (bt (sn) 0), .int .u8 (bt (sn) 1), .int .u8 (bt (sn) 2), .int .u8 (bt (sn) 3), .int .u8 (bt (sn) 4), .int .u8 (bt (sn) 5), .int .u8 (bt (sn) 6), .int .u8 (bt (sn) 7), .int .i64 sv] 36)).heap.size (wr.alloc (.cells #[.int .u8 (bt (sn) 0), .int .u8 (bt (sn) 1), .int .u8 (bt (sn) 2), .int .u8 (bt (sn) 3), .int .u8 (bt (sn) 4), .int .u8 (bt (sn) 5), .int .u8 (bt (sn) 6), .int .u8 (bt (sn) 7), .int .i64 sv] 36)) w' := cS.mono fun e w' ⟨q', d', h1, h2, h3⟩ => ⟨q', d', (ins J sn sv).length, h1, by omega, h2, h3⟩
            clear cS HSE h6 hfr
            go_wp2_with fail
            refine cS'.mono ?_
            rintro e w7 ⟨q', d', n2, rfl, hn2, hR7, hb7⟩
            have hB7 := hbV.trans (hb7.mono hbV.size)
            clear cS'
            go_wp2_with fail
            go_roundw
            case rel => exact ⟨k + 1, q', d', n2, by omega, by go_num, rfl, hn2, by rw [HT.out]; exact hR7, hB7⟩
            case measure => simp [intOf]; omega
        · obtain rfl : k = m := by omega
          rw [List.take_of_length_le (by omega)] at hR
          have hlJ := hR.len
          have HS : Hid (joinL A B = (joi A B, 0)) := by unfold Hid; rw [HJ.out, if_neg (by omega)]
          have HL : Hid ((joi A B).length = n') := hlJ
          clear hS hlJ
          go_wp2_with fail
          go_ret2
          exact ⟨p', c', by rw [HS.out, HL.out]; rfl, by rw [HS.out]; dsimp only; rw [HL.out]; exact hR, hbb⟩
    · have HS : Hid (joinL A B = ([], rightL A)) := by unfold Hid joinL; rw [if_pos zB, if_neg zA]
      have hzz : (rightL A != 0) = true := by simp [zA]
      rw [zB] at cB
      clear zA zB
      generalize rightL A = z at *
      go_enter Tryd.func13, Tryd.ntmps13
      go_wp2_with fail
      refine cB.mono ?_
      rintro e w1 ⟨rfl, hb1⟩
      have ha1 := ha.below hb1
      have hT1 := hT.up hb1
      clear cB ha hb
      go_wp2_with fail
      refine (cA _ ha1 hT1).mono ?_
      rintro e w2 ⟨rfl, hb2⟩
      have hbb2 := hb1.trans (hb2.mono hb1.size)
      clear cA ha1 hT1 hb1 hb2
      go_wp2_with fail
      go_ret2
      exact ⟨none, 0, by rw [HS.out]; rfl, by rw [HS.out]; exact RdM.nilR _ _, hbb2⟩
  · have HS : Hid (joinL A B = ([], rightL B)) := by unfold Hid joinL; rw [if_neg zB]
    have hzz : (rightL B != 0) = true := by simp [zB]
    clear zB cA
    generalize rightL B = z at *
    go_enter Tryd.func13, Tryd.ntmps13
    go_wp2_with fail
    refine cB.mono ?_
    rintro e w1 ⟨rfl, hb1⟩
    clear cB ha hb
    go_wp2_with fail
    go_ret2
    exact ⟨none, 0, by rw [HS.out]; rfl, by rw [HS.out]; exact RdM.nilR _ _, hb1⟩

end Go.Proofs.YtphdbpljgilcgaaDoor.M
