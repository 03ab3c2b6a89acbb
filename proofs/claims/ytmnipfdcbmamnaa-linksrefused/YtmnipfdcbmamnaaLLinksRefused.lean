/-
  Own text: the walk of the statement 'LinksRefused'.
-/
import Derived.Test.YtmnipfdcbmamnaaXTwo
import Derived.Test.YtmnipfdcbmamnaaNAwake
import Derived.Test.YtmnipfdcbmamnaaNTwo
namespace Go.Proofs.Ytmnipfdcbmamnaa.M
open Go.ChangeShapes Go.WideShapes Go.ChangeAt Go.RowKit Go.ChangeMaps Go.MapKept Go.Maps

theorem RdN.below {w w' : World} {p : Option Addr} {n c : Nat} {ls : List Nd} (h : RdN w p n c ls) (hb : Below w.heap.size w w') : RdN w' p n c ls := by
  refine ⟨h.len, fun hn => ?_, fun j hj => ?_⟩
  · obtain ⟨b, o, e, hc⟩ := h.cells hn
    refine ⟨b, o, e, fun i hi => ?_⟩
    obtain ⟨k0, k1, k2, k3, k4, k5⟩ := hc i hi
    exact ⟨cell_below hb k0, cell_below hb k1, cell_below hb k2, cell_below hb k3, cell_below hb k4, cell_below hb k5⟩
  · obtain ⟨r1, r2⟩ := h.rd j hj
    exact ⟨r1.below hb, r2⟩

theorem xc_lit : (xc (.slice none 0 0) (List.replicate 64 false) 0) = Try.zeroCells31 := rfl

/-- Under way. -/
def ReI (w : World) (B g b gx k : Nat) (wr : World) : Prop := ∃ m, NM (fun _ => False) wr B g b k m ∧ Lks m ∧ XS wr gx k m ∧ Below B w wr

theorem ReI.out {w : World} {B g b gx k : Nat} {wr : World} (h : ReI w B g b gx k wr) : ∃ m, NM (fun _ => False) wr B g b k m ∧ Lks m ∧ XS wr gx k m ∧ Below B w wr := h

theorem At.belowB {t : TypeId} {w w' : World} {g B : Nat} {cs : Array Value} (h : At t w g cs) (hb : Below B w w') (hg : g < B) : At t w' g cs := (hb.block g hg).trans h

set_option linter.unusedSimpArgs false in
set_option maxRecDepth 20000 in
set_option maxHeartbeats 16000000 in
theorem walk_LinksRefused (w : World) (p : Option Addr) (n c : Nat) (ls : List Nd) (hr : RdN w p n c ls) (op i x y : Int) (bq : Option Addr) (bl bc : Nat) (s : Int) (xb : List Int) (hk : Nd.rd w (⟨op, i, x, y, bq, bl, bc, s, xb⟩ : Nd)) :
    Calls Try.prog 5 #[.slice p n c, .agg #[.int .i64 op, .int .i64 i, .int .i64 x, .int .i64 y, .slice bq bl bc, .int .u64 s]] w fun r w' => r = .returned (.bool true) ∧ Below w.heap.size w w' := by
  have hW := fun W => awake_any W
  have h0b := below_alloc w (.cells #[.int .i64 op, .int .i64 i, .int .i64 x, .int .i64 y, .slice bq bl bc, .int .u64 s] 37)
  have hA0 := At.new 37 w #[.int .i64 op, .int .i64 i, .int .i64 x, .int .i64 y, .slice bq bl bc, .int .u64 s]
  have h1b := below_alloc (w.alloc (.cells #[.int .i64 op, .int .i64 i, .int .i64 x, .int .i64 y, .slice bq bl bc, .int .u64 s] 37)) (.cells #[.int .i64 op, .int .i64 i, .int .i64 x, .int .i64 y, .slice bq bl bc, .int .u64 s] 37)
  have hA1 := At.moved (g2 := w.heap.size + 1) (by simp) (At.new 37 (w.alloc (.cells #[.int .i64 op, .int .i64 i, .int .i64 x, .int .i64 y, .slice bq bl bc, .int .u64 s] 37)) #[.int .i64 op, .int .i64 i, .int .i64 x, .int .i64 y, .slice bq bl bc, .int .u64 s])
  have h2b := below_alloc ((w.alloc (.cells #[.int .i64 op, .int .i64 i, .int .i64 x, .int .i64 y, .slice bq bl bc, .int .u64 s] 37)).alloc (.cells #[.int .i64 op, .int .i64 i, .int .i64 x, .int .i64 y, .slice bq bl bc, .int .u64 s] 37)) (.cells #[.slice p n c, .slice (some ⟨w.heap.size + 1, 0, none⟩) 1 1] 22)
  have hA2 := At.moved (g2 := w.heap.size + 1 + 1) (by simp) (At.new 22 ((w.alloc (.cells #[.int .i64 op, .int .i64 i, .int .i64 x, .int .i64 y, .slice bq bl bc, .int .u64 s] 37)).alloc (.cells #[.int .i64 op, .int .i64 i, .int .i64 x, .int .i64 y, .slice bq bl bc, .int .u64 s] 37)) #[.slice p n c, .slice (some ⟨w.heap.size + 1, 0, none⟩) 1 1])
  have hB1 := h0b.trans (h1b.mono h0b.size)
  have hB2 := hB1.trans (h2b.mono hB1.size)
  have hA12 := hA1.below h2b
  have hone : RdN (((w.alloc (.cells #[.int .i64 op, .int .i64 i, .int .i64 x, .int .i64 y, .slice bq bl bc, .int .u64 s] 37)).alloc (.cells #[.int .i64 op, .int .i64 i, .int .i64 x, .int .i64 y, .slice bq bl bc, .int .u64 s] 37)).alloc (.cells #[.slice p n c, .slice (some ⟨w.heap.size + 1, 0, none⟩) 1 1] 22)) (some ⟨w.heap.size + 1, 0, none⟩) 1 1 [⟨op, i, x, y, bq, bl, bc, s, xb⟩] := by
    refine ⟨rfl, fun _ => ⟨w.heap.size + 1, 0, rfl, fun j hj => ?_⟩, fun j hj => ?_⟩
    · obtain rfl : j = 0 := by omega
      exact ⟨hA12.cell 0, hA12.cell 1, hA12.cell 2, hA12.cell 3, hA12.cell 4, hA12.cell 5⟩
    · obtain rfl : j = 0 := by omega
      exact ⟨hk.1.below hB2, hk.2⟩
  have gS := short_lists _ (w.heap.size + 1 + 1) (fun j => if j = 0 then ⟨p, n, c, ls⟩ else ⟨some ⟨w.heap.size + 1, 0, none⟩, 1, 1, [⟨op, i, x, y, bq, bl, bc, s, xb⟩]⟩) 2 (by decide) (fun j hj => by
    match j, hj with
    | 0, _ => exact ⟨hA2.cell 0, hr.below hB2⟩
    | 1, _ => exact ⟨hA2.cell 1, hone⟩)
  obtain ⟨a0, a1, a2, a3, a4, a5⟩ := hA0.six
  have hA02 := (hA0.below h1b).below h2b
  clear hA0 hA1 hA2 hA12 hone hB1 h0b h1b h2b
  go_enter Try.func5, Try.ntmps5
  go_wp2_with fail
  refine gS.mono ?_
  rintro o w3 ⟨⟨bb, rfl, hn150⟩, hb3⟩
  have HB := hB2.trans (hb3.mono hB2.size)
  have hA3 := hA02.below hb3
  clear gS hb3 hB2 hA02 a0 a1 a2 a3 a4 a5
  cases bb with
  | false =>
    go_wp2_with fail
    refine (hW _).mono ?_
    rintro o w9 ⟨rfl, hb9⟩
    go_wp2_with fail
    go_ret
    exact ⟨rfl, HB.trans (hb9.mono HB.size)⟩
  | true =>
    have hn1 : n ≤ 150 := hn150 rfl 0 (by decide)
    clear hn150
    have gN := New_any (Z := fun _ => False) w3 (fun _ h => h.elim)
    go_wp2_with fail
    refine gN.mono ?_
    rintro o w4 ⟨g, b, rfl, hNB, hb4⟩
    clear gN
    have hnm4 : NM (fun _ => False) w4 w3.heap.size g b 0 ⟨fun _ _ => [], 0, 0⟩ := ⟨⟨_, hNB⟩, fun _ _ => Nat.zero_le _, (by decide), ⟨Int.le_refl _, Int.le_refl _⟩⟩
    clear hNB
    have hbX := below_alloc w4 (.cells (xc (.slice none 0 0) (List.replicate 64 false) 0) 31)
    have hx5 := XS.new w4
    have hb5 := hb4.trans (hbX.mono hb4.size)
    have HB4 := HB.trans (hb5.mono HB.size)
    have hwB : w.heap.size ≤ w3.heap.size := HB.size
    have hA4 := hA3.below hb5
    have hgx : w.heap.size < w3.heap.size := hA3.lt
    have hgB : w3.heap.size ≤ w4.heap.size := hb4.size
    have hst : ReI (w4.alloc (.cells (xc (.slice none 0 0) (List.replicate 64 false) 0) 31)) w3.heap.size g b w4.heap.size 0 (w4.alloc (.cells (xc (.slice none 0 0) (List.replicate 64 false) 0) 31)) := ⟨_, hnm4.below hbX, Lks.new, hx5, Below.refl _ _⟩
    have hBw5 : w3.heap.size ≤ (w4.alloc (.cells (xc (.slice none 0 0) (List.replicate 64 false) 0) 31)).heap.size := hb5.size
    clear hnm4 HB hb4 hA3 hbX hb5 hx5
    rw [xc_lit] at hst HB4 hA4 hBw5
    go_wp2_with fail
    obtain ⟨w5, HW5⟩ : ∃ z, z = w4.alloc (.cells Try.zeroCells31 31) := ⟨_, rfl⟩
    rw [← HW5] at hst HB4 hA4 hBw5 ⊢
    clear HW5
    generalize hGX : w4.heap.size = gx at *
    clear hGX
    have hcut : w.heap.size ≤ w3.heap.size := hwB
    generalize hB3 : w3.heap.size = B at *
    go_loopw [25] (fun i wr => ∃ (k : Nat), k ≤ n ∧ i = .int .i64 k ∧ ReI w5 B g b gx k wr) (fun i _ => n - (intOf i).toNat)
    case atStart => exact ⟨0, Nat.zero_le _, rfl, hst⟩
    case round =>
      obtain ⟨k, hkk, rfl, hI⟩ := hrel
      obtain ⟨m, hnm, hlk, hxs, hbB⟩ := ReI.out hI
      have hBw : B ≤ wr.heap.size := Nat.le_trans hBw5 hbB.size
      have hbw : Below w.heap.size w wr := HB4.trans (hbB.mono hcut)
      clear hI hst
      by_cases hkn : k < n
      · have hki : (k : Int) < (n : Int) := by omega
        have hrk := hr.below hbw
        obtain ⟨gb, go, rfl, hcl⟩ := hrk.cells (by omega)
        have hat := hcl k hkn
        have hrd := hrk.rd k hkn
        have hrw := hr.rd k hkn
        clear hrk hcl
        generalize ls.getD k .z0 = z at *
        obtain ⟨op', i', x', y', bq', bl', bc', s', xb'⟩ := z
        obtain ⟨c0, c1, c2, c3, c4, c5⟩ := hat
        dsimp only at c0 c1 c2 c3 c4 c5
        have hba := below_alloc wr (.cells #[.int .i64 op', .int .i64 i', .int .i64 x', .int .i64 y', .slice bq' bl' bc', .int .u64 s'] 37)
        have hbx0 := At.new 37 wr #[.int .i64 op', .int .i64 i', .int .i64 x', .int .i64 y', .slice bq' bl' bc', .int .u64 s']
        have hnm0 := hnm.below hba
        have hd := does_any hnm0 (by omega) op' i' x' y' bq' bl' bc' s' xb' ⟨hrd.1.below hba, hrd.2⟩
        obtain ⟨d0, d1, d2, d3, d4, d5⟩ := hbx0.six
        go_wp2_with fail
        refine hd.mono ?_
        rintro o W6 ⟨⟨p1, m1, cq1, rfl, hr1, hu1⟩, hnm6, hF⟩
        have hlk6 := hlk.step ⟨op', i', x', y', bq', bl', bc', s', xb'⟩
        have hbB6 : Below B w5 W6 := (hbB.trans (hba.mono hBw)).trans hF.bel
        have hbw6 : Below w.heap.size w W6 := HB4.trans (hbB6.mono hcut)
        have hxs6 := (hxs.below hba).belF hnm0 hF
        have hbx6 := hbx0.belF hnm0 hF (by decide) (by decide)
        have hal := also_any hxs6 (by omega) hlk (by have := hnm.lo; omega) op' i' x' y' bq' bl' bc' s' xb' ⟨hrw.1.below hbw6, hrw.2⟩
        obtain ⟨d0, d1, d2, d3, d4, d5⟩ := hbx6.six
        generalize (m.step ⟨op', i', x', y', bq', bl', bc', s', xb'⟩).1 = m' at *
        generalize (m.step ⟨op', i', x', y', bq', bl', bc', s', xb'⟩).2 = a at *
        clear hd hF hba hbx0 c0 c1 c2 c3 c4 c5 hnm hrd hbw hlk hr1 hu1 hbB hnm0 hrw
        go_wp2_with fail
        refine hal.mono ?_
        rintro o W7 ⟨rfl, hxs7, hE⟩
        have hnm7 := hnm6.exx hxs6 hE
        have hgx6 := hxs6.lt
        have hbB7 : Below B w5 W7 := hbB6.trans (hE.below hgB hgx6)
        clear hal hE hxs6 hnm6 hbB6 hbx6 d0 d1 d2 d3 d4 d5 hbw6
        go_wp2_with fail
        go_roundw
        case rel => exact ⟨k + 1, by omega, by go_num, m', hnm7, hlk6, hxs7, hbB7⟩
        case measure => simp [intOf]; omega
      · have hki : ¬ (k : Int) < (n : Int) := by omega
        have hkn' : k = n := by omega
        have gC := nLost_any hnm
        have hA5 := hA4.belowB hbB hgx
        clear hr
        go_wp2_with fail
        refine gC.mono ?_
        rintro o w6 ⟨rfl, hb6⟩
        have hA6 := hA5.below hb6
        have hbw6 := hbw.trans (hb6.mono hbw.size)
        have hnm6 := hnm.below hb6
        have hxs6 := hxs.below hb6
        have hBw6 : B ≤ w6.heap.size := Nat.le_trans hBw hb6.size
        have hd := does_any hnm6 (by omega) op i x y bq bl bc s xb ⟨hk.1.below hbw6, hk.2⟩
        obtain ⟨d0, d1, d2, d3, d4, d5⟩ := hA6.six
        clear gC hA5 hb6 hbw hA4
        go_wp2_with fail
        refine hd.mono ?_
        rintro o W7 ⟨⟨p1, m1, cq1, rfl, hr1, hu1⟩, hnm7, hF⟩
        have hxs7 := hxs6.belF hnm6 hF
        have hA7 := hA6.belF hnm6 hF (by decide) (by decide)
        have hbw7 : Below w.heap.size w W7 := hbw6.trans (hF.bel.mono hcut)
        have hlk7 := hlk.step ⟨op, i, x, y, bq, bl, bc, s, xb⟩
        have hse := step_err m ⟨op, i, x, y, bq, bl, bc, s, xb⟩
        have hlo := hnm.lo
        obtain ⟨m', hm'⟩ : ∃ z, z = (m.step ⟨op, i, x, y, bq, bl, bc, s, xb⟩).1 := ⟨_, rfl⟩
        obtain ⟨a, ha⟩ : ∃ z, z = (m.step ⟨op, i, x, y, bq, bl, bc, s, xb⟩).2 := ⟨_, rfl⟩
        rw [← hm'] at hnm7 hlk7 hse
        rw [← ha] at hr1 hse ⊢
        clear hm' ha hd hF hA6 hbw6 hnm6 hxs6 hr1 hu1 d0 d1 d2 d3 d4 d5 hnm hxs
        dsimp only at hse
        obtain ⟨aok, ae, amsg⟩ := a
        dsimp only at hse ⊢
        obtain ⟨d0, d1, d2, d3, d4, d5⟩ := hA7.six
        by_cases he0 : ae = 0
        · subst he0
          clear hse
          go_wp2_with fail
          refine (hW _).mono ?_
          rintro o w9 ⟨rfl, hb9⟩
          go_wp2_with fail
          go_ret
          exact ⟨rfl, hbw7.trans (hb9.mono hbw7.size)⟩
        · have hm1 := hse he0
          have he0' : (ae == 0) = false := beq_eq_false_iff_ne.2 he0
          have c65 := hxs7.lostC
          have f65 := hxs7.free 65
          clear hse
          by_cases he7 : ae = 7
          · subst he7
            by_cases h3 : wrap64 ((IntKind.u64.wrap op).tmod 9) < 3
            · have hd3 : decide (wrap64 ((IntKind.u64.wrap op).tmod 9) < 3) = true := decide_eq_true h3
              rw [if_pos ⟨rfl, h3⟩] at hm1
              have hwr : IntKind.i64.wrap (m.lost + 1) = m.lost + 1 := by rw [IntKind.wrap_i64]; omega
              have hxz := hxs7.lose (m.lost + 1)
              have hez : Ex gx W7 (W7.setCell ⟨gx, 65, none⟩ (.int .i64 (m.lost + 1))) := (Ex.refl gx W7).setCell 65 _
              go_wp2_with fail
              generalize (W7.setCell ⟨gx, 65, none⟩ (.int .i64 (m.lost + 1))) = W8 at *
              have hnm8 := hnm7.exx hxs7 hez
              have hbw8 : Below w.heap.size w W8 := hbw7.trans (hez.below (Nat.le_trans hcut hgB) hxs7.lt)
              have hxz' : XS W8 gx k m' := by rw [hm1]; exact hxz
              have gS := same_any hnm8 hlk7 (by omega) hxz' (by omega)
              clear hez hxs7 hnm7 hbw7 hxz d0 d1 d2 d3 d4 d5 c65 f65
              refine gS.mono ?_
              rintro o w9 ⟨rfl, hb9⟩
              have hbw9 := hbw8.trans (hb9.mono hbw8.size)
              clear gS
              go_wp2_with fail
              refine (hW _).mono ?_
              rintro o w10 ⟨rfl, hb10⟩
              go_wp2_with fail
              go_ret
              exact ⟨rfl, hbw9.trans (hb10.mono hbw9.size)⟩
            · have hd3 : decide (wrap64 ((IntKind.u64.wrap op).tmod 9) < 3) = false := decide_eq_false h3
              rw [if_neg (fun e => h3 e.2)] at hm1
              have hxz := hxs7.lose m.lost
              have hez : Ex gx W7 (W7.setCell ⟨gx, 65, none⟩ (.int .i64 m.lost)) := (Ex.refl gx W7).setCell 65 _
              go_wp2_with fail
              generalize (W7.setCell ⟨gx, 65, none⟩ (.int .i64 m.lost)) = W8 at *
              have hnm8 := hnm7.exx hxs7 hez
              have hbw8 : Below w.heap.size w W8 := hbw7.trans (hez.below (Nat.le_trans hcut hgB) hxs7.lt)
              have hxz' : XS W8 gx k m' := by rw [hm1]; exact hxz
              have gS := same_any hnm8 hlk7 (by omega) hxz' (by omega)
              clear hez hxs7 hnm7 hbw7 hxz d0 d1 d2 d3 d4 d5 c65 f65
              refine gS.mono ?_
              rintro o w9 ⟨rfl, hb9⟩
              have hbw9 := hbw8.trans (hb9.mono hbw8.size)
              clear gS
              go_wp2_with fail
              refine (hW _).mono ?_
              rintro o w10 ⟨rfl, hb10⟩
              go_wp2_with fail
              go_ret
              exact ⟨rfl, hbw9.trans (hb10.mono hbw9.size)⟩
          · have he7' : (ae == 7) = false := beq_eq_false_iff_ne.2 he7
            rw [if_neg (fun e => he7 e.1)] at hm1
            have hxz := hxs7.lose m.lost
            have hez : Ex gx W7 (W7.setCell ⟨gx, 65, none⟩ (.int .i64 m.lost)) := (Ex.refl gx W7).setCell 65 _
            go_wp2_with fail
            generalize (W7.setCell ⟨gx, 65, none⟩ (.int .i64 m.lost)) = W8 at *
            have hnm8 := hnm7.exx hxs7 hez
            have hbw8 : Below w.heap.size w W8 := hbw7.trans (hez.below (Nat.le_trans hcut hgB) hxs7.lt)
            have hxz' : XS W8 gx k m' := by rw [hm1]; exact hxz
            have gS := same_any hnm8 hlk7 (by omega) hxz' (by omega)
            clear hez hxs7 hnm7 hbw7 hxz d0 d1 d2 d3 d4 d5 c65 f65
            refine gS.mono ?_
            rintro o w9 ⟨rfl, hb9⟩
            have hbw9 := hbw8.trans (hb9.mono hbw8.size)
            clear gS
            go_wp2_with fail
            refine (hW _).mono ?_
            rintro o w10 ⟨rfl, hb10⟩
            go_wp2_with fail
            go_ret
            exact ⟨rfl, hbw9.trans (hb10.mono hbw9.size)⟩

end Go.Proofs.Ytmnipfdcbmamnaa.M
