/-
  Own text: the walk of the statement 'LinksNobody'.
-/
import Derived.Test.YtaiaocjggaflfaaNDoes
import Derived.Test.YtaiaocjggaflfaaOpenN
namespace Go.Proofs.Ytaiaocjggaflfaa.M
open Go.ChangeShapes Go.WideShapes Go.ChangeAt Go.RowKit Go.ChangeMaps Go.MapKept Go.Maps

set_option linter.unusedSimpArgs false in
set_option maxRecDepth 20000 in
set_option maxHeartbeats 8000000 in
theorem walk_LinksNobody (w : World) (op i x y : Int) (bq : Option Addr) (bl bc : Nat) (s : Int) (xb : List Int) (_hx : Nd.rd w ⟨op, i, x, y, bq, bl, bc, s, xb⟩) :
    Calls Try.prog 3 #[.agg #[.int .i64 op, .int .i64 i, .int .i64 x, .int .i64 y, .slice bq bl bc, .int .u64 s]] w fun r w' => r = .returned (.bool true) ∧ Below w.heap.size w w' := by
  have hW := fun W => awake_any W
  have h0b := below_alloc w (.cells #[.int .i64 op, .int .i64 i, .int .i64 x, .int .i64 y, .slice bq bl bc, .int .u64 s] 27)
  have h1b := below_alloc (w.alloc (.cells #[.int .i64 op, .int .i64 i, .int .i64 x, .int .i64 y, .slice bq bl bc, .int .u64 s] 27)) (.cells #[.int .i64 op, .int .i64 i, .int .i64 x, .int .i64 y, .slice bq bl bc, .int .u64 s] 27)
  have h2b := below_alloc ((w.alloc (.cells #[.int .i64 op, .int .i64 i, .int .i64 x, .int .i64 y, .slice bq bl bc, .int .u64 s] 27)).alloc (.cells #[.int .i64 op, .int .i64 i, .int .i64 x, .int .i64 y, .slice bq bl bc, .int .u64 s] 27)) (.cells #[.slice (some ⟨w.heap.size + 1, 0, none⟩) 1 1] 29)
  have hA0 := At.new 27 w #[.int .i64 op, .int .i64 i, .int .i64 x, .int .i64 y, .slice bq bl bc, .int .u64 s]
  have hA1 := At.moved (g2 := w.heap.size + 1) (by simp) (At.new 27 (w.alloc (.cells #[.int .i64 op, .int .i64 i, .int .i64 x, .int .i64 y, .slice bq bl bc, .int .u64 s] 27)) #[.int .i64 op, .int .i64 i, .int .i64 x, .int .i64 y, .slice bq bl bc, .int .u64 s])
  have hA2 := At.moved (g2 := w.heap.size + 1 + 1) (by simp) (At.new 29 ((w.alloc (.cells #[.int .i64 op, .int .i64 i, .int .i64 x, .int .i64 y, .slice bq bl bc, .int .u64 s] 27)).alloc (.cells #[.int .i64 op, .int .i64 i, .int .i64 x, .int .i64 y, .slice bq bl bc, .int .u64 s] 27)) #[.slice (some ⟨w.heap.size + 1, 0, none⟩) 1 1])
  have hB1 := h0b.trans (h1b.mono h0b.size)
  have hB2 := hB1.trans (h2b.mono hB1.size)
  have hA02 := (hA0.below h1b).below h2b
  have gS := short_one (((w.alloc (.cells #[.int .i64 op, .int .i64 i, .int .i64 x, .int .i64 y, .slice bq bl bc, .int .u64 s] 27)).alloc (.cells #[.int .i64 op, .int .i64 i, .int .i64 x, .int .i64 y, .slice bq bl bc, .int .u64 s] 27)).alloc (.cells #[.slice (some ⟨w.heap.size + 1, 0, none⟩) 1 1] 29)) (w.heap.size + 1) (w.heap.size + 1 + 1) bq bl bc (hA2.cell 0) ((hA1.below h2b).cell 4)
  obtain ⟨c0, c1, c2, c3, c4, c5⟩ := hA0.six
  clear hA0 hA1 hA2 hB1 h0b h1b h2b
  go_enter Try.func3, Try.ntmps3
  go_wp2_with fail
  refine gS.mono ?_
  rintro o w3 ⟨⟨bb, rfl⟩, hb3⟩
  have HB := hB2.trans (hb3.mono hB2.size)
  have hA3 := hA02.below hb3
  clear gS hb3 hA02 hB2 c0 c1 c2 c3 c4 c5
  cases bb with
  | false =>
    go_wp2_with fail
    refine (hW _).mono ?_
    rintro o w9 ⟨rfl, hb9⟩
    go_wp2_with fail
    go_ret
    exact ⟨rfl, HB.trans (hb9.mono HB.size)⟩
  | true =>
    have hab := below_alloc w3 (.cells #[.map none, .int .u64 0, .int .i64 0] 35)
    have hbb := below_alloc (w3.alloc (.cells #[.map none, .int .u64 0, .int .i64 0] 35)) (.cells #[.pointer none, .pointer (some ⟨w3.heap.size, 0, none⟩)] 31)
    have hAL := (At.new 35 w3 #[.map none, .int .u64 0, .int .i64 0]).below hbb
    have hAR := At.moved (g2 := w3.heap.size + 1) (by simp) (At.new 31 (w3.alloc (.cells #[.map none, .int .u64 0, .int .i64 0] 35)) #[.pointer none, .pointer (some ⟨w3.heap.size, 0, none⟩)])
    have hB4 := hab.trans (hbb.mono hab.size)
    have HB4 := HB.trans (hB4.mono HB.size)
    have hA4 := hA3.below hB4
    clear hab hbb hB4 HB hA3
    go_wp2_with fail
    generalize ((w3.alloc (.cells #[.map none, .int .u64 0, .int .i64 0] 35)).alloc (.cells #[.pointer none, .pointer (some ⟨w3.heap.size, 0, none⟩)] 31)) = w4 at *
    generalize w3.heap.size = lb at *
    go_loopw [20] (fun i wr => ∃ (k : Nat), k ≤ 2 ∧ i = .int .i64 k ∧ Bl w4 wr) (fun i _ => 2 - (intOf i).toNat)
    case atStart => exact ⟨0, Nat.zero_le _, rfl, Below.refl _ _⟩
    case round =>
      obtain ⟨k, hk, rfl, hb⟩ := hrel
      replace hb := Bl.out' hb
      by_cases hkn : k < 2
      · have hki : (k : Int) < 2 := by omega
        have hARr := hAR.below hb
        have hALr := hAL.below hb
        obtain ⟨gv, hgv, hN⟩ : ∃ gv, wr.cell? ⟨lb + 1, k, none⟩ = some gv ∧ Nob wr gv := by
          match k, hkn with
          | 0, _ => exact ⟨_, hARr.cell 0, Or.inl rfl⟩
          | 1, _ => exact ⟨_, hARr.cell 1, Or.inr ⟨lb, rfl, hALr.cell 0⟩⟩
        have hA5 := hA4.below hb
        have g1 := ndoes_no gv op i x y bq bl bc s wr hN
        obtain ⟨c0, c1, c2, c3, c4, c5⟩ := hA5.six
        clear hAR hAL hARr hALr
        go_wp2_with fail
        refine g1.mono ?_
        rintro o w6 ⟨rfl, hb6⟩
        have hA6 := hA5.below hb6
        have hN6 := hN.below hb6
        have hbo6 := hb.trans (hb6.mono hb.size)
        clear g1 hb6 hA5 hN hb c0 c1 c2 c3 c4 c5 hgv
        obtain ⟨c0, c1, c2, c3, c4, c5⟩ := hA6.six
        have g1 := Peek_no gv x y i w6 hN6
        go_wp2_with fail
        refine g1.mono ?_
        rintro o w7 ⟨rfl, hb7⟩
        have hA7 := hA6.below hb7
        have hN7 := hN6.below hb7
        have hbo7 := hbo6.trans (hb7.mono hbo6.size)
        clear g1 hb7 hA6 hN6 hbo6 c0 c1 c2 c3 c4 c5
        obtain ⟨c0, c1, c2, c3, c4, c5⟩ := hA7.six
        have g1 := nLen_no gv x y w7 hN7
        go_wp2_with fail
        refine g1.mono ?_
        rintro o w8 ⟨rfl, hb8⟩
        have hA8 := hA7.below hb8
        have hN8 := hN7.below hb8
        have hbo8 := hbo7.trans (hb8.mono hbo7.size)
        clear g1 hb8 hA7 hN7 hbo7 c0 c1 c2 c3 c4 c5
        have g1 := nLost_no gv w8 hN8
        go_wp2_with fail
        refine g1.mono ?_
        rintro o w9 ⟨rfl, hb9⟩
        have hN9 := hN8.below hb9
        have hbo9 := hbo8.trans (hb9.mono hbo8.size)
        clear g1 hb9 hN8 hbo8 hA8
        have g1 := nBusy_no gv w9 hN9
        go_wp2_with fail
        refine g1.mono ?_
        rintro o w10 ⟨rfl, hb10⟩
        have hN10 := hN9.below hb10
        have hbo10 := hbo9.trans (hb10.mono hbo9.size)
        clear g1 hb10 hN9 hbo9
        have g1 := nClone_no gv w10 hN10
        go_wp2_with fail
        refine g1.mono ?_
        rintro o w11 ⟨rfl, hb11⟩
        have hbo11 : Bl w4 w11 := hbo10.trans (hb11.mono hbo10.size)
        clear g1 hb11 hN10 hbo10
        go_wp2_with fail
        go_roundw
        case rel => exact ⟨k + 1, by omega, by go_num, hbo11⟩
        case measure => simp [intOf]; omega
      · obtain rfl : k = 2 := by omega
        go_wp2_with fail
        refine (hW _).mono ?_
        rintro o w9 ⟨rfl, hb9⟩
        go_wp2_with fail
        go_ret
        have hz := HB4.trans (hb.mono HB4.size)
        exact ⟨rfl, hz.trans (hb9.mono hz.size)⟩

end Go.Proofs.Ytaiaocjggaflfaa.M
