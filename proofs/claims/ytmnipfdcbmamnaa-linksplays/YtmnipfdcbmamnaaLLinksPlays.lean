/-
  Own text: the walk of the statement 'LinksPlays'.
-/
import Derived.Test.YtmnipfdcbmamnaaXWr
import Derived.Test.YtmnipfdcbmamnaaNAwake
import Derived.Test.YtmnipfdcbmamnaaXShort
namespace Go.Proofs.Ytmnipfdcbmamnaa.M
open Go.ChangeShapes Go.WideShapes Go.ChangeAt Go.RowKit Go.ChangeMaps Go.MapKept Go.Maps

theorem RdN.below {w w' : World} {p : Option Addr} {n c : Nat} {ls : List Nd} (h : RdN w p n c ls) (hb : Below w.heap.size w w') : RdN w' p n c ls := by
  refine ⟨h.len, fun hn => ?_, fun j hj => ?_⟩
  · obtain ⟨b, o, e, hc⟩ := h.cells hn
    refine ⟨b, o, e, fun i hi => ?_⟩
    obtain ⟨k0, k1, k2, k3, k4, k5⟩ := hc i hi
    exact ⟨cell_below hb k0, cell_below hb k1, cell_below hb k2, cell_below hb k3, cell_below hb k4, cell_below hb k5⟩
  · obtain ⟨r1, r2⟩ := h.rd j hj
    exact ⟨r1.below hb, r2⟩

theorem numsOf_len (s : ByteArray) : (numsOf s).length = s.size := by
  unfold numsOf
  rw [List.length_map]
  simp

theorem pkS_size {m : PN} (h : Sz m) (x y i : Int) : (pkS m x y i).1.size ≤ 8192 := by
  unfold pkS
  split
  · next hi => exact h _ _ _ (getD_memB (i := i.toNat) (by omega))
  · exact Nat.zero_le _

theorem xc_lit : (xc (.slice none 0 0) (List.replicate 64 false) 0) = Try.zeroCells31 := rfl

/-- Under way. -/
def PlI (w : World) (B g b gx k : Nat) (wr : World) : Prop := ∃ m, NM (fun _ => False) wr B g b k m ∧ (Lks m ∧ Sz m) ∧ XS wr gx k m ∧ Below w.heap.size w wr

theorem PlI.out {w : World} {B g b gx k : Nat} {wr : World} (h : PlI w B g b gx k wr) : ∃ m, NM (fun _ => False) wr B g b k m ∧ (Lks m ∧ Sz m) ∧ XS wr gx k m ∧ Below w.heap.size w wr := h

set_option linter.unusedSimpArgs false in
set_option linter.unusedVariables false in
set_option maxRecDepth 20000 in
set_option maxHeartbeats 32000000 in
theorem walk_LinksPlays (w : World) (p : Option Addr) (n c : Nat) (ls : List Nd) (hr : RdN w p n c ls) (iz : Int) (_hz : (Lit.int .i64 iz).wf = true) :
    Calls Try.prog 3 #[.slice p n c, .int .i64 iz] w fun r w' => r = .returned (.bool true) ∧ Below w.heap.size w w' := by
  have hW := fun W => awake_any W
  have h0b := below_alloc w (.cells #[.slice p n c] 22)
  have hA0 := At.new 22 w #[.slice p n c]
  have gS := short_bytes _ w.heap.size p n c ls (hA0.cell 0) (hr.below h0b)
  clear hA0
  go_enter Try.func3, Try.ntmps3
  go_wp2_with fail
  refine gS.mono ?_
  rintro o w3 ⟨⟨bb, rfl, hn150⟩, hb3⟩
  have HB := h0b.trans (hb3.mono h0b.size)
  clear gS hb3 h0b
  cases bb with
  | false =>
    go_wp2_with fail
    refine (hW _).mono ?_
    rintro o w9 ⟨rfl, hb9⟩
    go_wp2_with fail
    go_ret
    exact ⟨rfl, HB.trans (hb9.mono HB.size)⟩
  | true =>
    obtain ⟨hn1, hblf⟩ := hn150 rfl
    clear hn150
    have gN := New_any (Z := fun _ => False) w3 (fun _ h => h.elim)
    go_wp2_with fail
    refine gN.mono ?_
    rintro o w4 ⟨g, b, rfl, hNB, hb4⟩
    clear gN
    have hnm4 : NM (fun _ => False) w4 w3.heap.size g b 0 ⟨fun _ _ => [], 0, 0⟩ := ⟨⟨_, hNB⟩, fun _ _ => Nat.zero_le _, (by decide), ⟨Int.le_refl _, Int.le_refl _⟩⟩
    clear hNB
    have hbX := below_alloc w4 (.cells (xc (.slice none 0 0) (List.replicate 64 false) 0) 31)
    have hx5 := XS.new w4
    have HB4 := HB.trans ((hb4.trans (hbX.mono hb4.size)).mono HB.size)
    have hwB : w.heap.size ≤ w3.heap.size := HB.size
    have hgB : w.heap.size ≤ w4.heap.size := Nat.le_trans hwB hb4.size
    have hst : PlI w w3.heap.size g b w4.heap.size 0 (w4.alloc (.cells (xc (.slice none 0 0) (List.replicate 64 false) 0) 31)) := ⟨_, hnm4.below hbX, ⟨Lks.new, Sz.new⟩, hx5, HB4⟩
    clear hnm4 HB hb4 hbX hx5 HB4
    rw [xc_lit] at hst
    go_wp2_with fail
    generalize (w4.alloc (.cells Try.zeroCells31 31)) = w5 at *
    generalize w4.heap.size = gx at *
    generalize w3.heap.size = B at *
    go_loopw [31] (fun i wr => ∃ (k : Nat), k ≤ n ∧ i = .int .i64 k ∧ PlI w B g b gx k wr) (fun i _ => n - (intOf i).toNat)
    case atStart => exact ⟨0, Nat.zero_le _, rfl, hst⟩
    case round =>
      obtain ⟨k, hk, rfl, hI⟩ := hrel
      obtain ⟨m, hnm, ⟨hlk, hsz⟩, hxs, hbw⟩ := PlI.out hI
      clear hI hst
      by_cases hkn : k < n
      · skip
        have hki : (k : Int) < (n : Int) := by omega
        have hrk := hr.below hbw
        obtain ⟨gb, go, rfl, hcl⟩ := hrk.cells (by omega)
        have hat := hcl k hkn
        have hrw := hr.rd k hkn
        have hbl := hblf k hkn
        clear hrk hcl
        generalize ls.getD k .z0 = z at *
        obtain ⟨op, i, x, y, bq, bl, bc, s, xb⟩ := z
        obtain ⟨c0, c1x, c2, c3, c4, c5⟩ := hat
        dsimp only at c0 c1x c2 c3 c4 c5
        obtain ⟨hrw1, hby, hwo, hwi, hx, hy, hsw⟩ := hrw
        replace hrw1 : Rd .u8 w bq bl bc xb := hrw1
        replace hx : Wf x := hx
        replace hbl : bl ≤ 16384 := hbl
        replace hy : Wf y := hy
        have hba := below_alloc wr (.cells #[.int .i64 op, .int .i64 i, .int .i64 x, .int .i64 y, .slice bq bl bc, .int .u64 s] 37)
        have hG0 := At.new 37 wr #[.int .i64 op, .int .i64 i, .int .i64 x, .int .i64 y, .slice bq bl bc, .int .u64 s]
        have hbb := below_alloc (wr.alloc (.cells #[.int .i64 op, .int .i64 i, .int .i64 x, .int .i64 y, .slice bq bl bc, .int .u64 s] 37)) (.cells #[.int .i64 op, .int .i64 i, .int .i64 x, .int .i64 y, .slice bq bl bc, .int .u64 s] 37)
        have hG1 := hG0.below hbb
        have hH1 := At.moved (g2 := wr.heap.size + 1) (by simp) (At.new 37 (wr.alloc (.cells #[.int .i64 op, .int .i64 i, .int .i64 x, .int .i64 y, .slice bq bl bc, .int .u64 s] 37)) #[.int .i64 op, .int .i64 i, .int .i64 x, .int .i64 y, .slice bq bl bc, .int .u64 s])
        have hbW1 := hba.trans (hbb.mono hba.size)
        have hsz1 : ((wr.alloc (.cells #[.int .i64 op, .int .i64 i, .int .i64 x, .int .i64 y, .slice bq bl bc, .int .u64 s] 37)).alloc (.cells #[.int .i64 op, .int .i64 i, .int .i64 x, .int .i64 y, .slice bq bl bc, .int .u64 s] 37)).heap.size = wr.heap.size + 1 + 1 := by simp
        have hC := bclone_any bq bl bc xb ((wr.alloc (.cells #[.int .i64 op, .int .i64 i, .int .i64 x, .int .i64 y, .slice bq bl bc, .int .u64 s] 37)).alloc (.cells #[.int .i64 op, .int .i64 i, .int .i64 x, .int .i64 y, .slice bq bl bc, .int .u64 s] 37)) (hrw1.below (hbw.trans (hbW1.mono hbw.size))) (by omega)
        obtain ⟨d0, d1, d2, d3, d4, d5⟩ := hG1.six
        obtain ⟨y0, y1, y2, y3, y4, y5⟩ := hH1.six
        go_wp2_with fail
        refine hC.mono ?_
        rintro o W2 ⟨⟨p1, c1, rfl, hrc, hrcu⟩, hb2⟩
        have hG2 := hG1.below hb2
        have hH2 := hH1.below hb2
        have hbW2 := hbW1.trans (hb2.mono hbW1.size)
        obtain ⟨y0, y1, y2, y3, y4, y5⟩ := hH2.six
        have yf := hH2.free 4
        obtain ⟨W1, HW1⟩ : ∃ z, z = ((wr.alloc (.cells #[.int .i64 op, .int .i64 i, .int .i64 x, .int .i64 y, .slice bq bl bc, .int .u64 s] 37)).alloc (.cells #[.int .i64 op, .int .i64 i, .int .i64 x, .int .i64 y, .slice bq bl bc, .int .u64 s] 37)) := ⟨_, rfl⟩
        rw [← HW1] at hrcu hsz1 hb2 hbW1
        have hgl1 : wr.heap.size + 1 < W1.heap.size := by omega
        have hE2 : Ex (wr.heap.size + 1) W2 (W2.setCell ⟨wr.heap.size + 1, 4, none⟩ (.slice p1 bl c1)) := (Ex.refl _ _).setCell 4 _
        have hH3 : At 37 (W2.setCell ⟨wr.heap.size + 1, 4, none⟩ (.slice p1 bl c1)) (wr.heap.size + 1) #[.int .i64 op, .int .i64 i, .int .i64 x, .int .i64 y, .slice p1 bl c1, .int .u64 s] := heap_setCell_same W2 (wr.heap.size + 1) 4 _ _ _ hH2
        have hG3 := hG2.ex hE2 (by omega)
        have hrc3' := hrc.exn hE2 (fun a e h0 => by have := (hrcu a (by rw [pz_pos h0]; exact e)).1; omega)
        have hrc3 := hrcu.exn hE2 (fun a e => by have := (hrcu a e).1; omega)
        have hbW3 : Below wr.heap.size wr (W2.setCell ⟨wr.heap.size + 1, 4, none⟩ (.slice p1 bl c1)) := hbW2.setCell (p := ⟨wr.heap.size + 1, 4, none⟩) (Nat.le_succ _) _
        have hW13 : W1.heap.size ≤ (W2.setCell ⟨wr.heap.size + 1, 4, none⟩ (.slice p1 bl c1)).heap.size := by have := hb2.size; simpa using this
        clear hC hba hbb hG0 hG1 hH1 hG2 hH2 hb2 hbW1 hbW2 hrc hrcu hE2 HW1 d0 d1 d2 d3 d4 d5 c0 c1x c2 c3 c4 c5
        have hlc : w.heap.size ≤ W1.heap.size := by have := hbw.size; omega
        obtain ⟨d0, d1, d2, d3, d4, d5⟩ := hG3.six
        go_wp2_with fail
        clear y0 y1 y2 y3 y4 y5 yf d0 d1 d2 d3 d4 d5
        generalize (W2.setCell ⟨wr.heap.size + 1, 4, none⟩ (.slice p1 bl c1)) = W3 at *
        have hnm3 := hnm.below hbW3
        have hxs3 := hxs.below hbW3
        have hbw3 := hbw.trans (hbW3.mono hbw.size)
        have hla : w.heap.size ≤ W3.heap.size := hbw3.size
        generalize wr.heap.size + 1 = gh at *
        generalize wr.heap.size = gl at *
        have hd := does_any hnm3 (by omega) op i x y p1 bl c1 s xb ⟨hrc3', hby, hwo, hwi, hx, hy, hsw⟩
        rw [show m.step (⟨op, i, x, y, p1, bl, c1, s, xb⟩ : Nd) = m.step (⟨op, i, x, y, bq, bl, bc, s, xb⟩ : Nd) from rfl] at hd
        obtain ⟨y0, y1, y2, y3, y4, y5⟩ := hH3.six
        clear hnm hxs hbw hbW3
        go_wp2_with fail
        refine hd.mono ?_
        rintro o W4 ⟨⟨pa, ma, ca, rfl, hra, hrua⟩, hnm4, hF⟩
        have hxs4 := hxs3.belF hnm3 hF
        have hG4 := hG3.belF hnm3 hF (by decide) (by decide)
        have hH4 := hH3.belF hnm3 hF (by decide) (by decide)
        obtain ⟨hrd4, hrc4⟩ := hrc3'.belF hrc3 hnm3 hF
        have hbw4 : Below w.heap.size w W4 := hbw3.trans (hF.bel.mono hwB)
        have hlk6 := hlk.step ⟨op, i, x, y, bq, bl, bc, s, xb⟩
        obtain ⟨hsz6, hszm⟩ := hsz.step ⟨op, i, x, y, bq, bl, bc, s, xb⟩ hrw1.len
        have hal := also_any hxs4 (by omega) hlk (by have := hnm3.lo; omega) op i x y bq bl bc s xb ⟨hrw1.below hbw4, hby, hwo, hwi, hx, hy, hsw⟩
        rw [nums_ans] at hra
        unfold aV at hal
        generalize (m.step ⟨op, i, x, y, bq, bl, bc, s, xb⟩).1 = m' at *
        generalize (m.step ⟨op, i, x, y, bq, bl, bc, s, xb⟩).2 = an at *
        obtain ⟨r1, Hr1⟩ : ∃ z : ByteArray, Hid ((if an.ok = true then an.msg else { data := #[] }) = z) := ⟨_, rfl⟩
        rw [Hr1.out] at hra hal
        have hma : ma ≤ 8192 := by
          have h1 := hra.len
          rw [numsOf_len, ← Hr1.out] at h1
          split at h1
          · next ho => have := hszm ho; omega
          · have h2 : (({ data := #[] } : ByteArray)).size = 0 := rfl
            omega
        clear hszm
        obtain ⟨aok, ae, amsg⟩ := an
        dsimp only at hal ⊢
        clear Hr1 hd hF hG3 hH3 hnm3 hxs3 hbw3 hlk y0 y1 y2 y3 y4 y5
        obtain ⟨d0, d1, d2, d3, d4, d5⟩ := hG4.six
        go_wp2_with fail
        refine hal.mono ?_
        rintro o W5 ⟨rfl, hxs5, hE5⟩
        have hnm5 := hnm4.exx hxs4 hE5
        have hG5 := hG4.exx hxs4 hE5 (by decide)
        have hH5 := hH4.exx hxs4 hE5 (by decide)
        obtain ⟨hrd5, hrc5⟩ := hrd4.exx hrc4 hxs4 hE5
        obtain ⟨hra5, hru5⟩ := hra.exx (hrua.pz ma) hxs4 hE5
        have hbw5 : Below w.heap.size w W5 := hbw4.trans (hE5.below hgB hxs4.lt)
        clear hal hE5 hxs4 hnm4 hG4 hH4 hrd4 hrc4 hra hrua hbw4 d0 d1 d2 d3 d4 d5 hsw hwo hwi hby hrw1
        obtain ⟨y0, y1, y2, y3, y4, y5⟩ := hH5.six
        have hXo := Xo.start hrd5 hrc5
        go_wp2_with fail
        clear y0 y1 y2 y3 y4 y5
        go_loopw [57] (fun ix wr => ∃ j : Nat, j ≤ bl ∧ ix = .int .i64 j ∧ Xo W1.heap.size W5 p1 bl c1 wr) (fun ix _ => bl - (intOf ix).toNat)
        case atStart => exact ⟨0, Nat.zero_le _, rfl, hXo⟩
        case round =>
          clear hXo
          obtain ⟨j, hj, rfl, hXo⟩ := hrel
          have hkp0 := hXo.kp
          have hH6 := hkp0.at hrc5 hH5 (by decide)
          obtain ⟨y0, y1, y2, y3, y4, y5⟩ := hH6.six
          clear hkp0
          by_cases hjl : j < bl
          · have hji : (j : Int) < (bl : Int) := by omega
            obtain ⟨pb, po, v, hpe, hcv, hfz, hcap, hnx⟩ := hXo.one hjl
            subst hpe
            clear hXo
            go_wp2_with fail
            go_roundw
            case rel => exact ⟨j + 1, by omega, by go_num, hnx _⟩
            case measure => simp [intOf]; omega
          · have hji : ¬ (j : Int) < (bl : Int) := by omega
            have hkp := hXo.kp
            have hrowX := hXo.row
            have hnm6 := hkp.nm hrc5 hnm5
            have hxs6 := hkp.xs hrc5 hxs5
            have hG6 := hkp.at hrc5 hG5 (by decide)
            have hbw6 : Below w.heap.size w wr := hbw5.trans (hkp.below (hrc5.low hlc) hbw5.size)
            have hra6 := hkp.rd hra5 (fun a a' e e' h0 eb => by
              have h1 := (hru5 a' (by rw [pz_pos h0]; exact e')).1
              obtain ⟨-, cs, f, h2, -⟩ := hrc3 a e
              have := (Array.getElem?_eq_some_iff.1 h2).1
              omega)
            have hru6 := hkp.row hru5 (fun a a' e e' eb => by
              have h1 := (hru5 a' e').1
              obtain ⟨-, cs, f, h2, -⟩ := hrc3 a e
              have := (Array.getElem?_eq_some_iff.1 h2).1
              omega)
            clear hXo hkp hrowX hnm5 hxs5 hG5 hbw5 hrd5 hrc5 hH5 hra5 hru5
            go_wp2_with fail
            generalize wr = W6 at *
            have gSt : ∀ W, Bl W6 W → (convert 34 9 (.slice pa ma ca)).run Try.prog W = .ok (.string r1) W := fun W hW => by
              have := (hra6.below (Bl.out' hW)).str
              rw [str_nums] at this
              exact this
            have gC65 : ∀ W, Bl W6 W → W.cell? ⟨gx, 65, none⟩ = some (.int .i64 m'.lost) := fun W hW => (hxs6.below (Bl.out' hW)).lostC
            have gLo : ∀ W, Bl W6 W → Calls Try.prog 12 #[.pointer (some ⟨g, 0, none⟩)] W fun o w' => o = .returned (.int .i64 m'.lost) ∧ Below W.heap.size W w' := fun W hW => nLost_any (hnm6.below (Bl.out' hW))
            obtain ⟨ln, Hln⟩ : ∃ z, Hid ((m'.N x y).length = z) := ⟨_, rfl⟩
            have gLn : ∀ W, Bl W6 W → Calls Try.prog 13 #[.pointer (some ⟨g, 0, none⟩), .agg #[.int .i64 x, .int .i64 y]] W fun o w' => o = .returned (.int .i64 ln) ∧ Below W.heap.size W w' := fun W hW => by
              have := LenM_any (hnm6.below (Bl.out' hW)) hx hy
              rw [Hln.out] at this
              exact this
            have gLx : ∀ W, Bl W6 W → Calls Try.prog 14 #[.pointer (some ⟨gx, 0, none⟩), .agg #[.int .i64 x, .int .i64 y]] W fun o w' => o = .returned (.int .i64 ln) ∧ Below W.heap.size W w' := fun W hW => by
              have := xLen_any (hxs6.below (Bl.out' hW)) (by omega) x y
              rw [Hln.out] at this
              exact this
            have gRg : ∀ W, Bl W6 W → W.rangeAt gl 2 [.int .i64 x, .int .i64 y] := fun W hW => by
              have hG := hG6.below (Bl.out' hW)
              intro j u hu
              match j, hu with
              | 0, hu => cases hu; exact hG.cell 2
              | 1, hu => cases hu; exact hG.cell 3
            have hS6 : Bl W6 W6.drew := (Below.refl _ _).drew
            refine wp_region_det [0, 1, 2, 3, 4, 5, 6, 7, 8, 9, 10, 11, 12, 13, 14, 15, 16, 17, 18, 19, 20, 21, 22, 23, 24, 25, 26, 27, 28, 29, 30, 31, 32, 33] (Bl W6) (Bl W6) (by kernel_rfl) hS6 ?_
            refine wpDet_take ?vA0 (Bl.stays W6) (fun _ h => h) (i := 0) rfl (by kernel_rfl) (by kernel_rfl) (by kernel_rfl) (by kernel_rfl) (fun _ _ _ h => h) (Gives.value (by rfl) ?yA0) ?rA0
            case yA0 => (intro w' hSw; (try dsimp only at hSw); go_simp; try with_reducible rfl)
            (try simp only [Act.put, List.getElem_toArray, List.getElem_cons_zero, List.getElem_cons_succ, List.setIfInBounds_toArray, List.set_cons_zero, List.set_cons_succ])
            refine wpDet_take ?vA1 (Bl.stays W6) (fun _ h => h) (i := 1) rfl (by kernel_rfl) (by kernel_rfl) (by kernel_rfl) (by kernel_rfl) (fun _ _ _ h => h) (Gives.value (by rfl) ?yA1) ?rA1
            case yA1 => (intro w' hSw; have hz0 := gSt w' hSw; (try dsimp only at hSw); go_simp; try with_reducible rfl)
            (try simp only [Act.put, List.getElem_toArray, List.getElem_cons_zero, List.getElem_cons_succ, List.setIfInBounds_toArray, List.set_cons_zero, List.set_cons_succ])
            refine wpDet_take ?vA2 (Bl.stays W6) (fun _ h => h) (i := 2) rfl (by kernel_rfl) (by kernel_rfl) (by kernel_rfl) (by kernel_rfl) (fun _ _ _ h => h) (Gives.value (by rfl) ?yA2) ?rA2
            case yA2 => (intro w' hSw; (try dsimp only at hSw); go_simp; try with_reducible rfl)
            (try simp only [Act.put, List.getElem_toArray, List.getElem_cons_zero, List.getElem_cons_succ, List.setIfInBounds_toArray, List.set_cons_zero, List.set_cons_succ])
            refine wpDet_take (.bool false) (Bl.stays W6) (fun _ h => h) (i := 3) rfl (by kernel_rfl) (by kernel_rfl) (by kernel_rfl) (by kernel_rfl) (fun _ _ _ h => h) (Gives.value (by rfl) ?yA3) ?rA3
            case yA3 => (intro w' hSw; (try dsimp only at hSw); go_simp; (try simp))
            (try simp only [Act.put, List.getElem_toArray, List.getElem_cons_zero, List.getElem_cons_succ, List.setIfInBounds_toArray, List.set_cons_zero, List.set_cons_succ])
            refine wpDet_take ?vA4 (Bl.stays W6) (fun _ h => h) (i := 4) rfl (by kernel_rfl) (by kernel_rfl) (by kernel_rfl) (by kernel_rfl) (fun _ _ _ h => h) (Gives.value (by rfl) ?yA4) ?rA4
            case yA4 => (intro w' hSw; (try dsimp only at hSw); go_simp; try with_reducible rfl)
            (try simp only [Act.put, List.getElem_toArray, List.getElem_cons_zero, List.getElem_cons_succ, List.setIfInBounds_toArray, List.set_cons_zero, List.set_cons_succ])
            refine wpDet_take ?vA5 (Bl.stays W6) (fun _ h => h) (i := 5) rfl (by kernel_rfl) (by kernel_rfl) (by kernel_rfl) (by kernel_rfl) (fun _ _ _ h => h) (Gives.value (by rfl) ?yA5) ?rA5
            case yA5 => (intro w' hSw; (try dsimp only at hSw); go_simp; try with_reducible rfl)
            (try simp only [Act.put, List.getElem_toArray, List.getElem_cons_zero, List.getElem_cons_succ, List.setIfInBounds_toArray, List.set_cons_zero, List.set_cons_succ])
            refine wpDet_take ?vA6 (Bl.stays W6) (fun _ h => h) (i := 6) rfl (by kernel_rfl) (by kernel_rfl) (by kernel_rfl) (by kernel_rfl) (fun _ _ _ h => h) (Gives.value (by rfl) ?yA6) ?rA6
            case yA6 => (intro w' hSw; (try dsimp only at hSw); go_simp; try with_reducible rfl)
            (try simp only [Act.put, List.getElem_toArray, List.getElem_cons_zero, List.getElem_cons_succ, List.setIfInBounds_toArray, List.set_cons_zero, List.set_cons_succ])
            refine wpDet_take (.bool false) (Bl.stays W6) (fun _ h => h) (i := 7) rfl (by kernel_rfl) (by kernel_rfl) (by kernel_rfl) (by kernel_rfl) (fun _ _ _ h => h) (Gives.value (by rfl) ?yA7) ?rA7
            case yA7 => (intro w' hSw; (try dsimp only at hSw); go_simp; (try simp))
            (try simp only [Act.put, List.getElem_toArray, List.getElem_cons_zero, List.getElem_cons_succ, List.setIfInBounds_toArray, List.set_cons_zero, List.set_cons_succ])
            refine wpDet_take ?vA8 (Bl.stays W6) (fun _ h => h) (i := 8) rfl (by kernel_rfl) (by kernel_rfl) (by kernel_rfl) (by kernel_rfl) (fun _ _ _ h => h) (Gives.value (by rfl) ?yA8) ?rA8
            case yA8 => (intro w' hSw; (try dsimp only at hSw); go_simp; try with_reducible rfl)
            (try simp only [Act.put, List.getElem_toArray, List.getElem_cons_zero, List.getElem_cons_succ, List.setIfInBounds_toArray, List.set_cons_zero, List.set_cons_succ])
            refine wpDet_take ?vA9 (Bl.stays W6) (fun _ h => h) (i := 9) rfl (by kernel_rfl) (by kernel_rfl) (by kernel_rfl) (by kernel_rfl) (fun _ _ _ h => h) (Gives.value (by rfl) ?yA9) ?rA9
            case yA9 => (intro w' hSw; (try dsimp only at hSw); go_simp; try with_reducible rfl)
            (try simp only [Act.put, List.getElem_toArray, List.getElem_cons_zero, List.getElem_cons_succ, List.setIfInBounds_toArray, List.set_cons_zero, List.set_cons_succ])
            refine wpDet_take ?vA10 (Bl.stays W6) (fun _ h => h) (i := 10) rfl (by kernel_rfl) (by kernel_rfl) (by kernel_rfl) (by kernel_rfl) (fun _ _ _ h => h) (Gives.value (by rfl) ?yA10) ?rA10
            case yA10 => (intro w' hSw; (try dsimp only at hSw); go_simp; try with_reducible rfl)
            (try simp only [Act.put, List.getElem_toArray, List.getElem_cons_zero, List.getElem_cons_succ, List.setIfInBounds_toArray, List.set_cons_zero, List.set_cons_succ])
            refine wpDet_take ?vA11 (Bl.stays W6) (fun _ h => h) (i := 11) rfl (by kernel_rfl) (by kernel_rfl) (by kernel_rfl) (by kernel_rfl) (fun _ _ _ h => h) (Gives.value (by rfl) ?yA11) ?rA11
            case yA11 => (intro w' hSw; (try dsimp only at hSw); go_simp; try with_reducible rfl)
            (try simp only [Act.put, List.getElem_toArray, List.getElem_cons_zero, List.getElem_cons_succ, List.setIfInBounds_toArray, List.set_cons_zero, List.set_cons_succ])
            refine wpDet_take (.bool false) (Bl.stays W6) (fun _ h => h) (i := 12) rfl (by kernel_rfl) (by kernel_rfl) (by kernel_rfl) (by kernel_rfl) (fun _ _ _ h => h) (Gives.value (by rfl) ?yA12) ?rA12
            case yA12 => (intro w' hSw; (try dsimp only at hSw); go_simp; (try simp))
            (try simp only [Act.put, List.getElem_toArray, List.getElem_cons_zero, List.getElem_cons_succ, List.setIfInBounds_toArray, List.set_cons_zero, List.set_cons_succ])
            refine wpDet_take ?vA13 (Bl.stays W6) (fun _ h => h) (i := 13) rfl (by kernel_rfl) (by kernel_rfl) (by kernel_rfl) (by kernel_rfl) (fun _ _ _ h => h) (Gives.value (by rfl) ?yA13) ?rA13
            case yA13 => (intro w' hSw; (try dsimp only at hSw); go_simp; try with_reducible rfl)
            (try simp only [Act.put, List.getElem_toArray, List.getElem_cons_zero, List.getElem_cons_succ, List.setIfInBounds_toArray, List.set_cons_zero, List.set_cons_succ])
            refine wpDet_take ?vA14 (Bl.stays W6) (fun _ h => h) (i := 14) rfl (by kernel_rfl) (by kernel_rfl) (by kernel_rfl) (by kernel_rfl) (fun _ _ _ h => h) (Gives.value (by rfl) ?yA14) ?rA14
            case yA14 => (intro w' hSw; (try dsimp only at hSw); go_simp; try with_reducible rfl)
            (try simp only [Act.put, List.getElem_toArray, List.getElem_cons_zero, List.getElem_cons_succ, List.setIfInBounds_toArray, List.set_cons_zero, List.set_cons_succ])
            refine wpDet_take ?vA15 (Bl.stays W6) (fun _ h => h) (i := 15) rfl (by kernel_rfl) (by kernel_rfl) (by kernel_rfl) (by kernel_rfl) (fun _ _ _ h => h) (Gives.value (by rfl) ?yA15) ?rA15
            case yA15 => (intro w' hSw; (try dsimp only at hSw); go_simp; try with_reducible rfl)
            (try simp only [Act.put, List.getElem_toArray, List.getElem_cons_zero, List.getElem_cons_succ, List.setIfInBounds_toArray, List.set_cons_zero, List.set_cons_succ])
            refine wpDet_take (.int .i64 m'.lost) (Bl.stays W6) (fun _ h => h) (i := 16) rfl (by kernel_rfl) (by kernel_rfl) (by kernel_rfl) (by kernel_rfl) (fun _ _ _ h => h) (Gives.call 12 #[.pointer (some ⟨g, 0, none⟩)] (by rfl) (fun _ => by first | (go_simp; done) | (go_simp; rfl)) (fun W hW => gLo W hW)) ?_
            (try simp only [Act.put, List.getElem_toArray, List.getElem_cons_zero, List.getElem_cons_succ, List.setIfInBounds_toArray, List.set_cons_zero, List.set_cons_succ])
            refine wpDet_take ?vA17 (Bl.stays W6) (fun _ h => h) (i := 17) rfl (by kernel_rfl) (by kernel_rfl) (by kernel_rfl) (by kernel_rfl) (fun _ _ _ h => h) (Gives.value (by rfl) ?yA17) ?rA17
            case yA17 => (intro w' hSw; (try dsimp only at hSw); go_simp; try with_reducible rfl)
            (try simp only [Act.put, List.getElem_toArray, List.getElem_cons_zero, List.getElem_cons_succ, List.setIfInBounds_toArray, List.set_cons_zero, List.set_cons_succ])
            refine wpDet_take ?vA18 (Bl.stays W6) (fun _ h => h) (i := 18) rfl (by kernel_rfl) (by kernel_rfl) (by kernel_rfl) (by kernel_rfl) (fun _ _ _ h => h) (Gives.value (by rfl) ?yA18) ?rA18
            case yA18 => (intro w' hSw; (try dsimp only at hSw); go_simp; try with_reducible rfl)
            (try simp only [Act.put, List.getElem_toArray, List.getElem_cons_zero, List.getElem_cons_succ, List.setIfInBounds_toArray, List.set_cons_zero, List.set_cons_succ])
            refine wpDet_take ?vA19 (Bl.stays W6) (fun _ h => h) (i := 19) rfl (by kernel_rfl) (by kernel_rfl) (by kernel_rfl) (by kernel_rfl) (fun _ _ _ h => h) (Gives.value (by rfl) ?yA19) ?rA19
            case yA19 => (intro w' hSw; (try dsimp only at hSw); go_simp; try with_reducible rfl)
            (try simp only [Act.put, List.getElem_toArray, List.getElem_cons_zero, List.getElem_cons_succ, List.setIfInBounds_toArray, List.set_cons_zero, List.set_cons_succ])
            refine wpDet_take ?vA20 (Bl.stays W6) (fun _ h => h) (i := 20) rfl (by kernel_rfl) (by kernel_rfl) (by kernel_rfl) (by kernel_rfl) (fun _ _ _ h => h) (Gives.value (by rfl) ?yA20) ?rA20
            case yA20 => (intro w' hSw; have hz0 := gC65 w' hSw; (try dsimp only at hSw); go_simp; try with_reducible rfl)
            (try simp only [Act.put, List.getElem_toArray, List.getElem_cons_zero, List.getElem_cons_succ, List.setIfInBounds_toArray, List.set_cons_zero, List.set_cons_succ])
            refine wpDet_take (.bool false) (Bl.stays W6) (fun _ h => h) (i := 21) rfl (by kernel_rfl) (by kernel_rfl) (by kernel_rfl) (by kernel_rfl) (fun _ _ _ h => h) (Gives.value (by rfl) ?yA21) ?rA21
            case yA21 => (intro w' hSw; (try dsimp only at hSw); go_simp; (try simp))
            (try simp only [Act.put, List.getElem_toArray, List.getElem_cons_zero, List.getElem_cons_succ, List.setIfInBounds_toArray, List.set_cons_zero, List.set_cons_succ])
            refine wpDet_take ?vA22 (Bl.stays W6) (fun _ h => h) (i := 22) rfl (by kernel_rfl) (by kernel_rfl) (by kernel_rfl) (by kernel_rfl) (fun _ _ _ h => h) (Gives.value (by rfl) ?yA22) ?rA22
            case yA22 => (intro w' hSw; (try dsimp only at hSw); go_simp; try with_reducible rfl)
            (try simp only [Act.put, List.getElem_toArray, List.getElem_cons_zero, List.getElem_cons_succ, List.setIfInBounds_toArray, List.set_cons_zero, List.set_cons_succ])
            refine wpDet_take ?vA23 (Bl.stays W6) (fun _ h => h) (i := 23) rfl (by kernel_rfl) (by kernel_rfl) (by kernel_rfl) (by kernel_rfl) (fun _ _ _ h => h) (Gives.value (by rfl) ?yA23) ?rA23
            case yA23 => (intro w' hSw; (try dsimp only at hSw); go_simp; try with_reducible rfl)
            (try simp only [Act.put, List.getElem_toArray, List.getElem_cons_zero, List.getElem_cons_succ, List.setIfInBounds_toArray, List.set_cons_zero, List.set_cons_succ])
            refine wpDet_take ?vA24 (Bl.stays W6) (fun _ h => h) (i := 24) rfl (by kernel_rfl) (by kernel_rfl) (by kernel_rfl) (by kernel_rfl) (fun _ _ _ h => h) (Gives.value (by rfl) ?yA24) ?rA24
            case yA24 => (intro w' hSw; (try dsimp only at hSw); go_simp; try with_reducible rfl)
            (try simp only [Act.put, List.getElem_toArray, List.getElem_cons_zero, List.getElem_cons_succ, List.setIfInBounds_toArray, List.set_cons_zero, List.set_cons_succ])
            refine wpDet_take ?vA25 (Bl.stays W6) (fun _ h => h) (i := 25) rfl (by kernel_rfl) (by kernel_rfl) (by kernel_rfl) (by kernel_rfl) (fun _ _ _ h => h) (Gives.value (by rfl) ?yA25) ?rA25
            case yA25 => (intro w' hSw; (try dsimp only at hSw); go_simp; try with_reducible rfl)
            (try simp only [Act.put, List.getElem_toArray, List.getElem_cons_zero, List.getElem_cons_succ, List.setIfInBounds_toArray, List.set_cons_zero, List.set_cons_succ])
            refine wpDet_take _ (Bl.stays W6) (fun _ h => h) (i := 26) rfl (by kernel_rfl) (by kernel_rfl) (by kernel_rfl) (by kernel_rfl) (fun _ _ _ h => h) (Gives.of_yields (yieldsIf_load_mid (by rfl) _ _ rfl _ _ rfl _ _ (fun W h => gRg W h) Try.underlying33 rfl sizeLk)) ?_
            (try simp only [Act.put, List.getElem_toArray, List.getElem_cons_zero, List.getElem_cons_succ, List.setIfInBounds_toArray, List.set_cons_zero, List.set_cons_succ])
            refine wpDet_take (.int .i64 ln) (Bl.stays W6) (fun _ h => h) (i := 27) rfl (by kernel_rfl) (by kernel_rfl) (by kernel_rfl) (by kernel_rfl) (fun _ _ _ h => h) (Gives.call 13 #[.pointer (some ⟨g, 0, none⟩), .agg #[.int .i64 x, .int .i64 y]] (by rfl) (fun _ => by first | (go_simp; done) | (go_simp; rfl)) (fun W hW => gLn W hW)) ?_
            (try simp only [Act.put, List.getElem_toArray, List.getElem_cons_zero, List.getElem_cons_succ, List.setIfInBounds_toArray, List.set_cons_zero, List.set_cons_succ])
            refine wpDet_take ?vA28 (Bl.stays W6) (fun _ h => h) (i := 28) rfl (by kernel_rfl) (by kernel_rfl) (by kernel_rfl) (by kernel_rfl) (fun _ _ _ h => h) (Gives.value (by rfl) ?yA28) ?rA28
            case yA28 => (intro w' hSw; (try dsimp only at hSw); go_simp; try with_reducible rfl)
            (try simp only [Act.put, List.getElem_toArray, List.getElem_cons_zero, List.getElem_cons_succ, List.setIfInBounds_toArray, List.set_cons_zero, List.set_cons_succ])
            refine wpDet_take ?vA29 (Bl.stays W6) (fun _ h => h) (i := 29) rfl (by kernel_rfl) (by kernel_rfl) (by kernel_rfl) (by kernel_rfl) (fun _ _ _ h => h) (Gives.value (by rfl) ?yA29) ?rA29
            case yA29 => (intro w' hSw; (try dsimp only at hSw); go_simp; try with_reducible rfl)
            (try simp only [Act.put, List.getElem_toArray, List.getElem_cons_zero, List.getElem_cons_succ, List.setIfInBounds_toArray, List.set_cons_zero, List.set_cons_succ])
            refine wpDet_take _ (Bl.stays W6) (fun _ h => h) (i := 30) rfl (by kernel_rfl) (by kernel_rfl) (by kernel_rfl) (by kernel_rfl) (fun _ _ _ h => h) (Gives.of_yields (yieldsIf_load_mid (by rfl) _ _ rfl _ _ rfl _ _ (fun W h => gRg W h) Try.underlying33 rfl sizeLk)) ?_
            (try simp only [Act.put, List.getElem_toArray, List.getElem_cons_zero, List.getElem_cons_succ, List.setIfInBounds_toArray, List.set_cons_zero, List.set_cons_succ])
            refine wpDet_take (.int .i64 ln) (Bl.stays W6) (fun _ h => h) (i := 31) rfl (by kernel_rfl) (by kernel_rfl) (by kernel_rfl) (by kernel_rfl) (fun _ _ _ h => h) (Gives.call 14 #[.pointer (some ⟨gx, 0, none⟩), .agg #[.int .i64 x, .int .i64 y]] (by rfl) (fun _ => by first | (go_simp; done) | (go_simp; rfl)) (fun W hW => gLx W hW)) ?_
            (try simp only [Act.put, List.getElem_toArray, List.getElem_cons_zero, List.getElem_cons_succ, List.setIfInBounds_toArray, List.set_cons_zero, List.set_cons_succ])
            refine wpDet_take (.bool false) (Bl.stays W6) (fun _ h => h) (i := 32) rfl (by kernel_rfl) (by kernel_rfl) (by kernel_rfl) (by kernel_rfl) (fun _ _ _ h => h) (Gives.value (by rfl) ?yA32) ?rA32
            case yA32 => (intro w' hSw; (try dsimp only at hSw); go_simp; (try simp))
            (try simp only [Act.put, List.getElem_toArray, List.getElem_cons_zero, List.getElem_cons_succ, List.setIfInBounds_toArray, List.set_cons_zero, List.set_cons_succ])
            refine wpDet_take ?vA33 (Bl.stays W6) (fun _ h => h) (i := 33) rfl (by kernel_rfl) (by kernel_rfl) (by kernel_rfl) (by kernel_rfl) (fun _ _ _ h => h) (Gives.value (by rfl) ?yA33) ?rA33
            case yA33 => (intro w' hSw; (try dsimp only at hSw); go_simp; try with_reducible rfl)
            (try simp only [Act.put, List.getElem_toArray, List.getElem_cons_zero, List.getElem_cons_succ, List.setIfInBounds_toArray, List.set_cons_zero, List.set_cons_succ])
            refine wpDet_done (by kernel_rfl) (fun W7 hW7 => ?_) _
            have hb7 := Bl.out' hW7
            have hG7 := hG6.below hb7
            have hnm7a := hnm6.below hb7
            have hxs7a := hxs6.below hb7
            have hbw7a := hbw6.trans (hb7.mono hbw6.size)
            have hra7a := hra6.below hb7
            have hru7a := hru6.below hb7
            have gP := nPeekA hnm7a hx hy iz
            obtain ⟨e0, e1, e2, e3, e4, e5⟩ := hG7.six
            obtain ⟨sv, se, HS⟩ : ∃ sv se, Hid (pkS m' x y iz = (sv, se)) := ⟨_, _, rfl⟩
            rw [HS.out] at gP
            dsimp only at gP
            have hb7s0 := hb7.size
            clear gSt gC65 gLo gLn gLx gRg hS6 hW7 hnm6 hxs6 hG6 hbw6 hb7
            go_wp2_with fail
            refine gP.mono ?_
            rintro o W7a ⟨⟨pp, np, cp, rfl, hrp, hpu⟩, hb7a⟩
            have hnp : np ≤ 8192 := by
              have h1 := hrp.len
              rw [numsOf_len] at h1
              have h2 := pkS_size hsz6 x y iz
              rw [HS.out] at h2
              dsimp only at h2
              omega
            have hG7b := hG7.below hb7a
            have hnm7b := hnm7a.below hb7a
            have hxs7b := hxs7a.below hb7a
            have hbw7b := hbw7a.trans (hb7a.mono hbw7a.size)
            have hra7b := hra7a.below hb7a
            have hru7b := hru7a.below hb7a
            have gQ := xPeekA hxs7b (by omega) x y iz
            rw [HS.out] at gQ
            dsimp only at gQ
            obtain ⟨e0, e1, e2, e3, e4, e5⟩ := hG7b.six
            have hlp : w.heap.size ≤ W7.heap.size := hbw7a.size
            have hb7s : W6.heap.size ≤ W7.heap.size := hb7s0
            clear gP hb7a hnm7a hxs7a hbw7a hra7a hru7a hG7
            go_wp2_with fail
            refine gQ.mono ?_
            rintro o W7b ⟨rfl, hb7b⟩
            have hnm7 := hnm7b.below hb7b
            have hxs7 := hxs7b.below hb7b
            have hbw7 := hbw7b.trans (hb7b.mono hbw7b.size)
            have hra7 := hra7b.below hb7b
            have hru7 := hru7b.below hb7b
            have hrp7 := hrp.below hb7b
            replace hpu := hpu.below hb7b
            have hsp := hrp7.str
            rw [str_nums] at hsp
            clear gQ hb7b hnm7b hxs7b hbw7b hra7b hru7b hrp hG7b e0 e1 e2 e3 e4 e5 HS
            have hXo := Xo.start hrp7 (hpu.pz np)
            go_wp2_with fail
            go_loopw [129] (fun ix wr => ∃ j : Nat, j ≤ np ∧ ix = .int .i64 j ∧ Xo W7.heap.size W7b pp np cp wr) (fun ix _ => np - (intOf ix).toNat)
            case atStart => exact ⟨0, Nat.zero_le _, rfl, hXo⟩
            case round =>
              clear hXo
              obtain ⟨j, hj, rfl, hXo⟩ := hrel

              by_cases hjl : j < np
              · have hji : (j : Int) < (np : Int) := by omega
                obtain ⟨pb, po, v, hpe, hcv, hfz, hcap, hnx⟩ := hXo.one hjl
                subst hpe
                clear hXo
                go_wp2_with fail
                go_roundw
                case rel => exact ⟨j + 1, by omega, by go_num, hnx _⟩
                case measure => simp [intOf]; omega
              · have hji : ¬ (j : Int) < (np : Int) := by omega
                have hkp := hXo.kp
                have hrowX := hXo.row
                have hbw8 : Below w.heap.size w wr := hbw7.trans (hkp.below ((hpu.pz np).low hlp) hbw7.size)
                have hnm8 := hkp.nm (hpu.pz np) hnm7
                have hxs8 := hkp.xs (hpu.pz np) hxs7
                have hra8 := hkp.rd hra7 (fun a a' e e' h0 eb => by
                  have h1 := (hpu a (pz_some e)).1
                  obtain ⟨b', o', e2, hc'⟩ := hra6.cells h0
                  rw [e'] at e2
                  cases e2
                  have h4 : b' < W6.heap.size := World.block_lt_of_cell? _ _ (hc' 0 h0)
                  have h2 := hb7s
                  have h5 : a.block = b' := eb
                  omega)
                have hru8 := hkp.row hru7 (fun a a' e e' eb => by
                  have h1 := (hpu a (pz_some e)).1
                  obtain ⟨-, cs, f, h2, -⟩ := hru6 a' e'
                  have := (Array.getElem?_eq_some_iff.1 h2).1
                  have h3 := hb7s
                  omega)
                clear hXo hkp hrowX hnm7 hxs7 hbw7 hra7 hru7
                have hXo := Xo.start hra8 hru8
                go_wp2_with fail
                generalize wr = W8 at *
                go_loopw [141] (fun ix wr => ∃ j : Nat, j ≤ ma ∧ ix = .int .i64 j ∧ Xo W3.heap.size W8 pa ma ca wr) (fun ix _ => ma - (intOf ix).toNat)
                case atStart => exact ⟨0, Nat.zero_le _, rfl, hXo⟩
                case round =>
                  clear hXo
                  obtain ⟨j, hj, rfl, hXo⟩ := hrel

                  by_cases hjl : j < ma
                  · have hji : (j : Int) < (ma : Int) := by omega
                    obtain ⟨pb, po, v, hpe, hcv, hfz, hcap, hnx⟩ := hXo.one hjl
                    subst hpe
                    clear hXo
                    go_wp2_with fail
                    go_roundw
                    case rel => exact ⟨j + 1, by omega, by go_num, hnx _⟩
                    case measure => simp [intOf]; omega
                  · have hji : ¬ (j : Int) < (ma : Int) := by omega
                    have hkp := hXo.kp
                    have hrowX := hXo.row
                    have hbwZ : Below w.heap.size w wr := hbw8.trans (hkp.below (hru8.low hla) hbw8.size)
                    have hnmZ := hkp.nm hru8 hnm8
                    have hxsZ := hkp.xs hru8 hxs8
                    clear hXo hkp hrowX hnm8 hxs8 hbw8
                    go_wp2_with fail
                    go_roundw
                    case rel => exact ⟨k + 1, by omega, by go_num, m', hnmZ, ⟨hlk6, hsz6⟩, hxsZ, hbwZ⟩
                    case measure => simp [intOf]; omega
      · skip
        have hki : ¬ (k : Int) < (n : Int) := by omega
        obtain ⟨L, HL⟩ : ∃ z, Hid (allB m.N 32 = z) := ⟨_, rfl⟩
        have gB := BusyX_any hnm hlk (by omega)
        have hLn : L.length ≤ 1000000 := by
          have := allB_len m.N 32
          rw [HL.out] at this
          omega
        rw [HL.out] at gB
        go_wp2_with fail
        refine gB.mono ?_
        rintro o w6 ⟨q1, d1, rfl, hr1, hb6⟩
        have gX := rBusy_any (hxs.below hb6) (by omega)
        rw [HL.out] at gX
        have hbw6 := hbw.trans (hb6.mono hbw.size)
        clear gB hb6
        go_wp2_with fail
        refine gX.mono ?_
        rintro o w7 ⟨q2, d2, rfl, hr2, hb7⟩
        have gE := eqL_same (hr1.below hb7) hr2 hLn
        have hbw7 := hbw6.trans (hb7.mono hbw6.size)
        clear gX hb7
        go_wp2_with fail
        refine gE.mono ?_
        rintro o w8 ⟨rfl, hb8⟩
        have hbw8 := hbw7.trans (hb8.mono hbw7.size)
        clear gE
        go_wp2_with fail
        refine (hW _).mono ?_
        rintro o w10 ⟨rfl, hb10⟩
        go_wp2_with fail
        go_ret
        exact ⟨rfl, hbw8.trans (hb10.mono hbw8.size)⟩

end Go.Proofs.Ytmnipfdcbmamnaa.M
