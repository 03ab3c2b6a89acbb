/-
  Own text: the contract of load.
-/
import Derived.Test.YtpjhadaiodnnaaaTLoad
import Derived.Deep.MidRow
namespace Go.Proofs.Ytpjhadaiodnnaaa.M
open Go.ChangeShapes Go.WideShapes Go.ChangeAt Go.RowKit

theorem sizeR : (Try.prog.info? 72).map (·.size) = some 3 := by kernel_rfl

theorem results_reel {fn : Func} {p u : Tmp} (h : fn.results = #[.cell p 72, .tmp u]) (tmps : Array Value) (w : World) (g : Nat) (x y z : Value) (hp : tmps.getD p undef = .pointer (some ⟨g, 0, none⟩)) (hg : At 72 w g #[x, y, z]) :
    (results fn tmps).run Try.prog w = .ok (.tuple #[.agg #[x, y, z], tmps.getD u undef]) w := by
  have hp' : tmps[p]?.getD undef = .pointer (some ⟨g, 0, none⟩) := by simpa using hp
  have hl := run_loadVar_mid (P := Try.prog) w g 0 72 [x, y, z] _ (fun j v hj => by
    rw [Nat.zero_add]
    match j, hj with
    | 0, hj => cases hj; exact hg.cell 0
    | 1, hj => cases hj; exact hg.cell 1
    | 2, hj => cases hj; exact hg.cell 2) Try.underlying72 rfl sizeR
  simp [results, h, hp', asAddr, hl]

theorem At.put3 {t : TypeId} {w : World} {g : Nat} {a b c : Value} (h : At t w g #[a, b, c]) (x y z : Value) : At t (((w.setCell ⟨g, 0, none⟩ x).setCell ⟨g, 1, none⟩ y).setCell ⟨g, 2, none⟩ z) g #[x, y, z] := by
  have h1 := heap_setCell_same w g 0 _ _ x h
  have h2 := heap_setCell_same _ g 1 _ _ y h1
  exact heap_setCell_same _ g 2 _ _ z h2

/-- Bytes lie in no reel's block. -/
theorem Rd.offR {w : World} {t : TypeId} {g n c : Nat} {p : Option Addr} {xs : List Int} {a : Int} {p1 p2 : Option Addr} {n1 c1 n2 c2 : Nat} (hr : Rd .u8 w p n c xs) (hg : At t w g #[.int .i64 a, .slice p1 n1 c1, .slice p2 n2 c2]) : ∀ x, p = some x → 0 < n → x.block ≠ g := fun x e hn eg => by
  obtain ⟨b, o, e2, hc⟩ := hr.cells hn
  rw [e] at e2
  cases e2
  have eg' : b = g := eg
  subst eg'
  have h0 := hc 0 hn
  rw [Nat.add_zero] at h0
  have h1 := hg.cell o
  rw [h0] at h1
  match o, h1 with
  | 0, h1 => cases h1
  | 1, h1 => cases h1
  | 2, h1 => cases h1
  | k + 3, h1 => exact absurd h1.symm (by rw [Array.getElem?_eq_none (by simp)]; intro h; cases h)

theorem Rd.exn {w w' : World} {g n c : Nat} {p : Option Addr} {xs : List Int} (hr : Rd .u8 w p n c xs) (he : Ex g w w') (hne : ∀ a, p = some a → 0 < n → a.block ≠ g) : Rd .u8 w' p n c xs :=
  ⟨hr.len, hr.cap, hr.nil, fun hn => by
    obtain ⟨b, o, e, hc⟩ := hr.cells hn
    refine ⟨b, o, e, fun i hi => ?_⟩
    have h1 := hc i hi
    have hlt : b < w.heap.size := World.block_lt_of_cell? _ _ h1
    rw [← h1]
    exact World.cell?_of_block (a := ⟨b, o + i, none⟩) (he.block b hlt (hne _ e hn))⟩

theorem RdV.exn {w w' : World} {g n c : Nat} {p : Option Addr} {vs : List Value} (hr : RdV w p n c vs) (he : Ex g w w') (hne : ∀ a, p = some a → 0 < n → a.block ≠ g) : RdV w' p n c vs :=
  ⟨hr.len, hr.cap, hr.nil, fun hn => by
    obtain ⟨b, o, e, hc⟩ := hr.cells hn
    refine ⟨b, o, e, fun i hi => ?_⟩
    have h1 := hc i hi
    have hlt : b < w.heap.size := World.block_lt_of_cell? _ _ h1
    rw [← h1]
    exact World.cell?_of_block (a := ⟨b, o + i, none⟩) (he.block b hlt (hne _ e hn))⟩

theorem OwG.exn {e : TypeId} {w w' : World} {B g n c : Nat} {p : Option Addr} {vs : List Value} (h : OwG e w B p n c vs) (he : Ex g w w') (hne : ∀ a, p = some a → 0 < c → a.block ≠ g) : OwG e w' B p n c vs :=
  ⟨h.rd.exn he (fun a ea h0 => hne a ea (Nat.lt_of_lt_of_le h0 h.rd.cap)), fun h0 => by
    obtain ⟨b, o, cur, e1, h1, h2, h3⟩ := h.own h0
    exact ⟨b, o, cur, e1, h1, (he.block b h2.lt (hne _ e1 h0)).trans h2, h3⟩⟩

theorem Sls.exR {w w' : World} {t : TypeId} {g : Nat} {vs : List Value} {xss : List (List Int)} {a : Int} {p1 p2 : Option Addr} {n1 c1 n2 c2 : Nat} (h : Sls w vs xss) (hg : At t w g #[.int .i64 a, .slice p1 n1 c1, .slice p2 n2 c2]) (he : Ex g w w') : Sls w' vs xss :=
  ⟨h.1, fun i hi => by
    obtain ⟨q, m, d, e, hr⟩ := h.2 i hi
    exact ⟨q, m, d, e, hr.exn he (hr.offR hg)⟩⟩

set_option maxRecDepth 20000 in
set_option maxHeartbeats 4000000 in
theorem load_any (B : Nat) (p : Option Addr) (n c : Nat) (xs : List Int) (w : World) (ho : Ow .u8 5 w B p n c xs) (hx : By xs) (hn : n ≤ 1099511627776) :
    Calls Try.prog 47 #[.slice p n c] w fun e w' => (∃ v, e = .returned (.tuple #[v, .bool (ldR xs).2]) ∧ ReV w' w.heap.size v (ldR xs).1) ∧ Below w.heap.size w w' := by
  have hba := below_alloc w (.cells #[.int .i64 0, .slice none 0 0, .slice none 0 0] 72)
  have hG := At.new 72 w #[.int .i64 0, .slice none 0 0, .slice none 0 0]
  have hA := all_own B p n c xs _ (ho.below hba) hx hn
  have hlx := ho.len
  obtain ⟨gr, hgr⟩ : ∃ z, z = w.heap.size := ⟨_, rfl⟩
  go_enter Try.func47, Try.ntmps47
  go_wp2_with fail
  refine hA.mono ?_
  rintro e W1 ⟨p', k', c', vs, rfl, hO, hS, hb1⟩
  have hG1 := hG.below hb1
  have hbw1 := hba.trans (hb1.mono hba.size)
  rw [← hgr] at hG1 ⊢
  clear hA hG hba hb1
  have hk' : k' = (allR xs).1.length := by rw [← hO.len]; exact hS.1
  by_cases hz : (allR xs).1 = []
  · have hk0 : k' = 0 := by rw [hk', hz]; rfl
    subst hk0
    have HL : Hid (ldR xs = (.z0, false)) := by unfold Hid ldR; rw [if_pos hz]
    obtain ⟨z0, z1, z2⟩ := hG1.three
    have f0 := hG1.free 0
    have f1 := hG1.free 1
    have f2 := hG1.free 2
    have hG2 := At.put3 hG1 (.int .i64 0) (.slice none 0 0) (.slice none 0 0)
    have hb2 : Below w.heap.size w (((W1.setCell ⟨gr, 0, none⟩ (.int .i64 0)).setCell ⟨gr, 1, none⟩ (.slice none 0 0)).setCell ⟨gr, 2, none⟩ (.slice none 0 0)) := by
      rw [hgr]
      exact ((hbw1.setCell (p := ⟨w.heap.size, 0, none⟩) (Nat.le_refl _) _).setCell (p := ⟨w.heap.size, 1, none⟩) (Nat.le_refl _) _).setCell (p := ⟨w.heap.size, 2, none⟩) (Nat.le_refl _) _
    clear hz hk'
    rw [hgr] at hG2
    rw [hgr] at z0 z1 z2 f0 f1 f2
    clear hG1
    subst hgr
    go_wp2_with fail
    refine bodyPost_ret (results_reel (p := 2) (u := 3) rfl _ _ w.heap.size _ _ _ rfl hG2) rfl ⟨⟨_, by rw [HL.out]; rfl, ?_⟩, hb2⟩
    rw [HL.out]
    exact ⟨none, 0, 0, none, 0, [], rfl, Ow.empty _ _ _ _ _, OwG.empty _ _ _, Slo.nil _ _ _⟩
  · have hkp : 0 < k' := by
      rcases Nat.eq_zero_or_pos k' with h | h
      · exact absurd (List.eq_nil_of_length_eq_zero (by rw [← hk']; exact h)) hz
      · exact h
    have hk0 : ((k' : Int) == 0) = false := by rw [beq_eq_false_iff_ne]; omega
    have HK : Hid (k' = (allR xs).1.length) := hk'
    have hkb : k' ≤ 1099511627776 := by have := allR_few xs hx; omega
    have HGR : Hid (gr = w.heap.size) := hgr
    have hRV := hO.rd
    obtain ⟨bv, ov, hpv, hcv⟩ := hRV.cells hkp
    subst hpv
    have hcv0 := hcv 0 hkp
    rw [Nat.add_zero] at hcv0
    obtain ⟨q0, m0, d0, hq0, ho0⟩ := hS.2 0 (by rw [hO.len]; exact hkp)
    rw [hq0] at hcv0
    obtain ⟨hby0, hl0⟩ := allR_by xs hx 0 (by rw [← hk']; exact hkp)
    obtain ⟨y, HY⟩ : ∃ z, Hid ((allR xs).1.getD 0 [] = z) := ⟨_, rfl⟩
    rw [HY.out] at ho0 hby0 hl0
    have hm0 : m0 ≤ 8192 := by rw [← ho0.len]; exact hl0
    have gR := read_any q0 m0 d0 y W1 ho0.rd hby0 (by omega)
    clear hcv hk' hgr
    go_wp2_with fail
    refine gR.mono ?_
    rintro e W2 ⟨g, pg, cg, rfl, hRg, hgB, hsz2, hb2⟩
    have hG2 := hG1.below hb2
    have hbw2 := hbw1.trans (hb2.mono hbw1.size)
    have hgr2 : gr < g := Nat.lt_of_lt_of_le hG1.lt hgB
    have gW1 := within_1 g (y, 0) W2 ⟨pg, m0, cg, hRg⟩
    clear gR hcv0
    have hwg : w.heap.size ≤ g := Nat.le_trans hbw1.size hgB
    go_wp2_with fail
    refine gW1.mono ?_
    rintro e W3 ⟨rfl, hR3, hE3⟩
    have hb3 : Below g W2 W3 := hE3.below (Nat.le_refl _) (by omega)
    have gW0 := within_0 g (wL 1 (y, 0)).2 W3 hR3
    have hs3 := hE3.size
    obtain ⟨v1, HV1⟩ : ∃ z, Hid ((wL 1 (y, 0)).1 = z) := ⟨_, rfl⟩
    rw [HV1.out]
    clear gW1 hE3
    go_wp2_with fail
    refine gW0.mono ?_
    rintro e W4 ⟨rfl, hR4, hE4⟩
    have hb4 : Below g W2 W4 := hb3.trans (hE4.below (Nat.le_refl _) (by omega))
    have gB := bytes_any 8176 (by decide) g (wL 0 (wL 1 (y, 0)).2).2 W4 hR4
    have hs4 := hE4.size
    obtain ⟨v2, HV2⟩ : ∃ z, Hid ((wL 0 (wL 1 (y, 0)).2).1 = z) := ⟨_, rfl⟩
    rw [HV2.out]
    clear gW0 hE4 hb3
    go_wp2_with fail
    refine gB.mono ?_
    rintro e W5 ⟨⟨pb, nb, cb, rfl, hrb⟩, hR5, hb5'⟩
    have hb5 : Below g W2 W5 := hb4.trans hb5'
    have gE := end_any g (bR 8176 (wL 0 (wL 1 (y, 0)).2).2).2 W5 hR5
    obtain ⟨v3, HV3⟩ : ∃ z, Hid (endR (bR 8176 (wL 0 (wL 1 (y, 0)).2).2).2 = z) := ⟨_, rfl⟩
    rw [HV3.out] at gE
    have hs5 := hb5'.size
    clear gB hb4 hb5'
    have hG5 : At 72 W5 gr #[.int .i64 0, .slice none 0 0, .slice none 0 0] := (hb5.block gr hgr2).trans hG2
    have hbw5 : Below w.heap.size w W5 := hbw2.trans (hb5.mono hwg)
    go_wp2_with fail
    refine gE.mono ?_
    rintro e W6 ⟨rfl, hw6⟩
    subst hw6
    clear gE
    have HLbad : ¬ (v3 = 0 ∧ v2 ≤ (k' : Int) - 1) → Hid (ldR xs = (.z0, false)) := fun h => by
      show _ = _
      unfold ldR
      rw [if_neg hz, HY.out, HV3.out, HV2.out, ← HK.out, if_neg h]
    have HLgood : (v3 = 0 ∧ v2 ≤ (k' : Int) - 1) → Hid (ldR xs = (⟨v1, (bR 8176 (wL 0 (wL 1 (y, 0)).2).2).1, (allR xs).1.drop 1⟩, decide ((allR xs).2 = xs.length))) := fun h => by
      show _ = _
      unfold ldR
      rw [if_neg hz, HY.out, HV3.out, HV2.out, HV1.out, ← HK.out, if_pos h]
    obtain ⟨z0, z1, z2⟩ := hG5.three
    have f0 := hG5.free 0
    have f1 := hG5.free 1
    have f2 := hG5.free 2
    have hgrw : w.heap.size ≤ gr := by rw [HGR.out]; exact Nat.le_refl _
    have hput : ∀ x y z : Value, Below w.heap.size w (((W6.setCell ⟨gr, 0, none⟩ x).setCell ⟨gr, 1, none⟩ y).setCell ⟨gr, 2, none⟩ z) := fun x y z => ((hbw5.setCell (p := ⟨gr, 0, none⟩) hgrw _).setCell (p := ⟨gr, 1, none⟩) hgrw _).setCell (p := ⟨gr, 2, none⟩) hgrw _
    by_cases hv3 : v3 = 0
    · by_cases hv2 : v2 ≤ (k' : Int) - 1
      · have HL := HLgood ⟨hv3, hv2⟩
        have hd2 : decide ((k' : Int) - 1 < v2) = false := decide_eq_false (by omega)
        have hwk : IntKind.i64.wrap ((k' : Int) - 1) = (k' : Int) - 1 := by rw [IntKind.wrap_i64]; have := hRV.cap; have := hkb; omega
        subst hv3
        clear HLbad HLgood
        have hW16 : Below W1.heap.size W1 W6 := hb2.trans (hb5.mono hgB)
        have hOG6 := hO.g.below hW16
        have hS6 := hS.below hW16
        have h2gr : (w.alloc (.cells #[.int .i64 0, .slice none 0 0, .slice none 0 0] 72)).heap.size = gr + 1 := by rw [HGR.out]; simp
        have hgrs : gr < W4.heap.size := by have := hs3; have := hs4; omega
        have hbg : ∀ a, some (⟨bv, ov, none⟩ : Addr) = some a → 0 < k' → a.block ≠ gr := fun a e _ => by
          cases e
          rcases hO.own with ⟨h1, _⟩ | h1
          · omega
          · have := (World.ownsRow.lt h1 bv rfl).1
            have h2 : (w.alloc (.cells #[.int .i64 0, .slice none 0 0, .slice none 0 0] 72)).heap.size = gr + 1 := by rw [HGR.out]; simp
            show bv ≠ gr
            omega
        obtain ⟨b9, o9, e9, hT⟩ := hOG6.tail hkp
        cases e9
        have hTS := hS6.tail
        have hbq : Hid (((((allR xs).2 : Nat) : Int) == (n : Int)) = decide ((allR xs).2 = xs.length)) := by
          show _ = _
          rw [hlx]
          by_cases h : (allR xs).2 = n
          · rw [decide_eq_true h, h]; simp
          · rw [decide_eq_false h, beq_eq_false_iff_ne]; omega
        have hlen9 : Hid (k' - 1 = ((allR xs).1.drop 1).length) := by
          show _ = _
          rw [List.length_drop, ← HK.out]
        by_cases hc1 : c' = 1
        · rw [if_pos hc1] at hT
          subst hc1
          have hG9 := At.put3 hG5 (.int .i64 v1) (.slice pb nb cb) (.slice (some ⟨bv, ov, none⟩) (k' - 1) 0)
          have hb9 := hput (.int .i64 v1) (.slice pb nb cb) (.slice (some ⟨bv, ov, none⟩) (k' - 1) 0)
          have hEx := (((Ex.refl gr W6).setCell 0 (.int .i64 v1)).setCell 1 (.slice pb nb cb)).setCell 2 (.slice (some ⟨bv, ov, none⟩) (k' - 1) 0)
          have hrb9 := (hrb.kept hEx.grown hgrs).lower (show w.heap.size ≤ W4.heap.size by omega)
          have hT9 := hT.exn hEx (fun a e h => hbg a e hkp)
          have hS9 := (hTS.exn hEx (by omega)).lower (show w.heap.size ≤ _ by rw [h2gr]; omega)
          clear hG5 hput hT hTS hrb hOG6 hS6 hRV hS hO
          go_wp2_with fail
          refine bodyPost_ret (results_reel (p := 2) (u := 3) rfl _ _ gr _ _ _ rfl hG9) rfl ⟨⟨.agg #[.int .i64 v1, .slice pb nb cb, .slice (some ⟨bv, ov, none⟩) (k' - 1) 0], ?_, ?_⟩, hb9⟩
          · rw [HL.out]
            show Ending.returned (.tuple #[_, .bool _]) = _
            rw [hbq.out]
          · rw [HL.out]
            refine ⟨pb, nb, cb, some ⟨bv, ov, none⟩, 0, vs.drop 1, ?_, hrb9, ?_, hS9⟩
            · show Value.agg #[_, _, _] = Value.agg #[_, _, _]
              rw [← hlen9.out]
            · show OwG _ _ _ _ ((allR xs).1.drop 1).length _ _
              rw [← hlen9.out]
              exact hT9.lowerB (by rw [h2gr]; omega)
        · rw [if_neg hc1] at hT
          have hG9 := At.put3 hG5 (.int .i64 v1) (.slice pb nb cb) (.slice (some ⟨bv, ov + 1, none⟩) (k' - 1) (c' - 1))
          have hb9 := hput (.int .i64 v1) (.slice pb nb cb) (.slice (some ⟨bv, ov + 1, none⟩) (k' - 1) (c' - 1))
          have hEx := (((Ex.refl gr W6).setCell 0 (.int .i64 v1)).setCell 1 (.slice pb nb cb)).setCell 2 (.slice (some ⟨bv, ov + 1, none⟩) (k' - 1) (c' - 1))
          have hrb9 := (hrb.kept hEx.grown hgrs).lower (show w.heap.size ≤ W4.heap.size by omega)
          have hT9 := hT.exn hEx (fun a e h => by cases e; exact hbg ⟨bv, ov, none⟩ rfl hkp)
          have hS9 := (hTS.exn hEx (by omega)).lower (show w.heap.size ≤ _ by rw [h2gr]; omega)
          have hcap9 : 1 ≤ c' := by have := hRV.cap; omega
          clear hG5 hput hT hTS hrb hOG6 hS6 hRV hS hO
          go_wp2_with fail
          refine bodyPost_ret (results_reel (p := 2) (u := 3) rfl _ _ gr _ _ _ rfl hG9) rfl ⟨⟨.agg #[.int .i64 v1, .slice pb nb cb, .slice (some ⟨bv, ov + 1, none⟩) (k' - 1) (c' - 1)], ?_, ?_⟩, hb9⟩
          · rw [HL.out]
            show Ending.returned (.tuple #[_, .bool _]) = _
            rw [hbq.out]
          · rw [HL.out]
            refine ⟨pb, nb, cb, some ⟨bv, ov + 1, none⟩, c' - 1, vs.drop 1, ?_, hrb9, ?_, hS9⟩
            · show Value.agg #[_, _, _] = Value.agg #[_, _, _]
              rw [← hlen9.out]
            · show OwG _ _ _ _ ((allR xs).1.drop 1).length _ _
              rw [← hlen9.out]
              exact hT9.lowerB (by rw [h2gr]; omega)
      · have HL := HLbad (fun h => hv2 h.2)
        have hd2 : decide ((k' : Int) - 1 < v2) = true := decide_eq_true (by omega)
        have hwk : IntKind.i64.wrap ((k' : Int) - 1) = (k' : Int) - 1 := by rw [IntKind.wrap_i64]; have := hRV.cap; have := hkb; omega
        have hG9 := At.put3 hG5 (.int .i64 0) (.slice none 0 0) (.slice none 0 0)
        have hb9 := hput (.int .i64 0) (.slice none 0 0) (.slice none 0 0)
        subst hv3
        clear HLbad HLgood hG5 hput hv2
        go_wp2_with fail
        refine bodyPost_ret (results_reel (p := 2) (u := 3) rfl _ _ gr _ _ _ rfl hG9) rfl ⟨⟨_, by rw [HL.out]; rfl, ?_⟩, hb9⟩
        rw [HL.out]
        exact ⟨none, 0, 0, none, 0, [], rfl, Ow.empty _ _ _ _ _, OwG.empty _ _ _, Slo.nil _ _ _⟩
    · have HL := HLbad (fun h => hv3 h.1)
      have hd3 : (v3 != 0) = true := by simpa using hv3
      have hG9 := At.put3 hG5 (.int .i64 0) (.slice none 0 0) (.slice none 0 0)
      have hb9 := hput (.int .i64 0) (.slice none 0 0) (.slice none 0 0)
      clear HLbad HLgood hG5 hput hv3
      go_wp2_with fail
      refine bodyPost_ret (results_reel (p := 2) (u := 3) rfl _ _ gr _ _ _ rfl hG9) rfl ⟨⟨_, by rw [HL.out]; rfl, ?_⟩, hb9⟩
      rw [HL.out]
      exact ⟨none, 0, 0, none, 0, [], rfl, Ow.empty _ _ _ _ _, OwG.empty _ _ _, Slo.nil _ _ _⟩

end Go.Proofs.Ytpjhadaiodnnaaa.M
