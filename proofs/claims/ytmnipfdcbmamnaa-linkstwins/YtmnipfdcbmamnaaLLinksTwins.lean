/-
  Own text: the walk of the statement 'LinksTwins'.
-/
import Derived.Test.YtmnipfdcbmamnaaXPlay
import Derived.Test.YtmnipfdcbmamnaaNAwake
import Derived.Test.YtmnipfdcbmamnaaNTwo
import Derived.Test.YtmnipfdcbmamnaaOpenN
namespace Go.Proofs.Ytmnipfdcbmamnaa.M
open Go.ChangeShapes Go.WideShapes Go.ChangeAt Go.RowKit Go.ChangeMaps Go.MapKept Go.Maps

theorem nds_nil {H : Type} {enc : TypeId × Value → H} {W : World} {a : Option Addr} {len cap : Nat} {d : DataW H} {pl : List MemPlace}
    (h : DataW.Trod enc Try.prog W 0 (fun _ => true) true 22 (.slice a len cap) d pl) : a = none → cap = 0 ∧ len = 0 := by
  obtain ⟨fuel, hf⟩ := h
  rcases Deep.open_slice Try.underlying22 hf with ⟨hcs, _⟩ | ⟨ad, l, c, m, n, D, Pl, hcs, _⟩
  · injection hcs with hcs
    injection hcs with e1 e2 e3
    exact fun _ => ⟨e3, e2⟩
  · injection hcs with hcs
    injection hcs with e1 e2 e3
    intro h
    rw [h] at e1
    cases e1

/-- Under way, ahead of the clone. -/
def TaI (w : World) (B g b k : Nat) (m : PN) (wr : World) : Prop := NM (fun _ => False) wr B g b k m ∧ Below w.heap.size w wr

/-- Under way, behind it. -/
def TbI (w : World) (B g b B2 g2 b2 k : Nat) (m m2 : PN) (wr : World) : Prop := (∃ k1 k2, k1 ≤ k ∧ k2 ≤ k ∧ Pair wr B g b k1 m B2 g2 b2 k2 m2) ∧ Below w.heap.size w wr

theorem take_over {ls : List Nd} {e : Nat} (h : ls.length ≤ e) : ls.take (e + 1) = ls.take e := by
  rw [List.take_of_length_le h, List.take_of_length_le (by omega)]

set_option linter.unusedSimpArgs false in
set_option linter.unusedVariables false in
set_option maxRecDepth 20000 in
set_option maxHeartbeats 16000000 in
theorem walk_LinksTwins (w : World) (p : Option Addr) (n c : Nat) (ls : List Nd) (hr : RdN w p n c ls) (hz : p = none → c = 0 ∧ n = 0) (p2 : Option Addr) (n2 c2 : Nat) (ls2 : List Nd) (hr2 : RdN w p2 n2 c2 ls2) (hz2 : p2 = none → c2 = 0 ∧ n2 = 0) (p3 : Option Addr) (n3 c3 : Nat) (ls3 : List Nd) (hr3 : RdN w p3 n3 c3 ls3) (hz3 : p3 = none → c3 = 0 ∧ n3 = 0) :
    Calls Try.prog 4 #[.slice p n c, .slice p2 n2 c2, .slice p3 n3 c3] w fun r w' => r = .returned (.bool true) ∧ Below w.heap.size w w' := by
  have hW := fun W => awake_any W
  have h0b := below_alloc w (.cells #[.slice p n c, .slice p2 n2 c2, .slice p3 n3 c3] 22)
  have hA0 := At.new 22 w #[.slice p n c, .slice p2 n2 c2, .slice p3 n3 c3]
  have gS := short_lists _ w.heap.size (fun j => if j = 0 then ⟨p, n, c, ls⟩ else if j = 1 then ⟨p2, n2, c2, ls2⟩ else ⟨p3, n3, c3, ls3⟩) 3 (by decide) (fun j hj => by
    match j, hj with
    | 0, _ => exact ⟨hA0.cell 0, hr.below h0b⟩
    | 1, _ => exact ⟨hA0.cell 1, hr2.below h0b⟩
    | 2, _ => exact ⟨hA0.cell 2, hr3.below h0b⟩)
  clear hA0
  go_enter Try.func4, Try.ntmps4
  go_wp2_with fail
  refine gS.mono ?_
  rintro o w3 ⟨⟨bb, rfl, hn150⟩, hb3⟩
  have HB := h0b.trans (hb3.mono h0b.size)
  clear gS hb3 h0b
  cases bb with
  | false =>
    go_wp2_with fail
    refine (hW _).mono ?_
    rintro o w9 ⟨rfl, hb9⟩
    go_wp2_with fail
    go_ret
    exact ⟨rfl, HB.trans (hb9.mono HB.size)⟩
  | true =>
    have hn1 : n ≤ 150 := hn150 rfl 0 (by decide)
    have hn2 : n2 ≤ 150 := hn150 rfl 1 (by decide)
    have hn3 : n3 ≤ 150 := hn150 rfl 2 (by decide)
    clear hn150
    have gN := New_any (Z := fun _ => False) w3 (fun _ h => h.elim)
    go_wp2_with fail
    refine gN.mono ?_
    rintro o w4 ⟨g, b, rfl, hNB, hb4⟩
    clear gN
    have hnm4 : NM (fun _ => False) w4 w3.heap.size g b 0 pn0 := ⟨⟨_, hNB⟩, fun _ _ => Nat.zero_le _, (by decide), ⟨Int.le_refl _, Int.le_refl _⟩⟩
    clear hNB
    have HB4 := HB.trans (hb4.mono HB.size)
    have hwB : w.heap.size ≤ w3.heap.size := HB.size
    have hst : TaI w w3.heap.size g b 0 (plN pn0 (ls.take 0)) w4 := ⟨hnm4, HB4⟩
    clear hnm4 HB HB4 hb4
    go_wp2_with fail
    generalize w3.heap.size = B at *
    go_loopw [25] (fun i wr => ∃ (k : Nat), k ≤ n ∧ i = .int .i64 k ∧ TaI w B g b k (plN pn0 (ls.take k)) wr) (fun i _ => n - (intOf i).toNat)
    case atStart => exact ⟨0, Nat.zero_le _, rfl, hst⟩
    case round =>
      obtain ⟨k, hkk, rfl, hnm, hbw⟩ := hrel
      clear hst
      by_cases hkn : k < n
      · have hki : (k : Int) < (n : Int) := by omega
        have hrk := hr.below hbw
        obtain ⟨gb, go, hpe, hcl⟩ := hrk.cells (by omega)
        subst hpe
        have hat := hcl k hkn
        have hrd := hrk.rd k hkn
        have hstp := plN_take (ls := ls) (j := k) (by rw [hr.len]; exact hkn) pn0
        clear hrk hcl
        generalize ls.getD k .z0 = z at *
        obtain ⟨op, i, x, y, bq, bl, bc, s, xb⟩ := z
        obtain ⟨c0, c1, c2', c3', c4, c5⟩ := hat
        dsimp only at c0 c1 c2' c3' c4 c5
        have hba := below_alloc wr (.cells #[.int .i64 op, .int .i64 i, .int .i64 x, .int .i64 y, .slice bq bl bc, .int .u64 s] 37)
        have hbx0 := At.new 37 wr #[.int .i64 op, .int .i64 i, .int .i64 x, .int .i64 y, .slice bq bl bc, .int .u64 s]
        have hd := does_any (hnm.below hba) (by omega) op i x y bq bl bc s xb ⟨hrd.1.below hba, hrd.2⟩
        rw [← hstp] at hd
        obtain ⟨m1, Hm1⟩ : ∃ z, Hid (plN pn0 (ls.take (k + 1)) = z) := ⟨_, rfl⟩
        rw [Hm1.out] at hd
        clear hstp
        obtain ⟨d0, d1, d2, d3, d4, d5⟩ := hbx0.six
        go_wp2_with fail
        refine hd.mono ?_
        rintro o W6 ⟨⟨p1, mm1, cq1, rfl, _, _⟩, hnm6, hF⟩
        have hbw6 : Below w.heap.size w W6 := (hbw.trans (hba.mono hbw.size)).trans (hF.bel.mono hwB)
        clear hd hF hba hbx0 c0 c1 c2' c3' c4 c5 d0 d1 d2 d3 d4 d5 hnm hrd hbw
        go_wp2_with fail
        go_roundw
        case rel => exact ⟨k + 1, by omega, by go_num, by rw [Hm1.out]; exact hnm6, hbw6⟩
        case measure => simp [intOf]; omega
      · have hki : ¬ (k : Int) < (n : Int) := by omega
        have hkn' : k = n := by omega
        have e0 : ls.take k = ls := List.take_of_length_le (by rw [hr.len]; omega)
        rw [e0] at hnm
        obtain ⟨m0, Hm0⟩ : ∃ z, Hid (plN pn0 ls = z) := ⟨_, rfl⟩
        have hlk0 : Lks m0 := by rw [← Hm0.out]; exact plN_lks _ Lks.new
        rw [Hm0.out] at hnm
        have gC := Pair.clone hnm hlk0
        clear hnm e0
        go_wp2_with fail
        refine gC.mono ?_
        rintro o w5 ⟨v, rfl, g2, b2, rfl, hP5, hb5⟩
        have hbw5 := hbw.trans (hb5.mono hbw.size)
        have hwB2 : w.heap.size ≤ wr.heap.size := hbw.size
        have hst2 : TbI w B g b wr.heap.size g2 b2 (n + 0) (plN m0 (ls2.take 0)) (plN m0 (ls3.take 0)) w5 := ⟨⟨k, k, by omega, by omega, hP5⟩, hbw5⟩
        clear gC hb5 hbw hP5 hbw5
        obtain ⟨mx, hmx, hmx2, hmx3, hmx0⟩ : ∃ mx : Nat, max (n2 : Int) (n3 : Int) = (mx : Int) ∧ n2 ≤ mx ∧ n3 ≤ mx ∧ mx ≤ 150 := ⟨max n2 n3, by omega, by omega, by omega, by omega⟩
        go_wp2_with fail
        generalize wr.heap.size = B2 at *
        go_loopw [40] (fun i wr => ∃ (e : Nat), e ≤ mx ∧ i = .int .i64 e ∧ TbI w B g b B2 g2 b2 (n + e) (plN m0 (ls2.take e)) (plN m0 (ls3.take e)) wr) (fun i _ => mx - (intOf i).toNat)
        case atStart => exact ⟨0, Nat.zero_le _, rfl, hst2⟩
        case round =>
          clear hst2
          obtain ⟨e, he, rfl, ⟨k1, k2, hk1, hk2, hP⟩, hbw⟩ := hrel
          by_cases hem : e < mx
          · have hei : (e : Int) < (mx : Int) := by omega
            by_cases hen2 : e < n2
            · have hei2 : (e : Int) < (n2 : Int) := by omega
              obtain ⟨gb, go, hpe, hcl⟩ := (hr2.below hbw).cells (by omega)
              subst hpe
              have hat := hcl e hen2
              have hrd := (hr2.below hbw).rd e hen2
              have hst := plN_take (ls := ls2) (j := e) (by rw [hr2.len]; exact hen2) m0
              clear hcl
              generalize ls2.getD e .z0 = z at *
              obtain ⟨op, i, x, y, bq, bl, bc, s, xb⟩ := z
              obtain ⟨c0, c1, c2', c3', c4, c5⟩ := hat
              dsimp only at c0 c1 c2' c3' c4 c5
              have hd := hP.does (by omega) op i x y bq bl bc s xb hrd
              rw [← hst] at hd
              obtain ⟨ma, Hma⟩ : ∃ z, Hid (plN m0 (ls2.take (e + 1)) = z) := ⟨_, rfl⟩
              rw [Hma.out] at hd
              clear hst
              go_wp2_with fail
              refine hd.mono ?_
              rintro o W6 ⟨⟨v6, rfl⟩, hP6, hb6⟩
              have hbw6 : Below w.heap.size w W6 := hbw.trans (hb6.mono hwB)
              clear hd hb6 hP hrd c0 c1 c2' c3' c4 c5 hbw
              generalize W6 = wr at *
              have hbw := hbw6
              clear hbw6
              by_cases hen3 : e < n3
              · have hei3 : (e : Int) < (n3 : Int) := by omega
                obtain ⟨gb, go, hpe, hcl⟩ := (hr3.below hbw).cells (by omega)
                subst hpe
                have hat := hcl e hen3
                have hrd := (hr3.below hbw).rd e hen3
                have hst := plN_take (ls := ls3) (j := e) (by rw [hr3.len]; exact hen3) m0
                clear hcl
                generalize ls3.getD e .z0 = z at *
                obtain ⟨op, i, x, y, bq, bl, bc, s, xb⟩ := z
                obtain ⟨c0, c1, c2', c3', c4, c5⟩ := hat
                dsimp only at c0 c1 c2' c3' c4 c5
                have hd := hP6.swap.does (by omega) op i x y bq bl bc s xb hrd
                rw [← hst] at hd
                obtain ⟨mb, Hmb⟩ : ∃ z, Hid (plN m0 (ls3.take (e + 1)) = z) := ⟨_, rfl⟩
                rw [Hmb.out] at hd
                clear hst
                go_wp2_with fail
                refine hd.mono ?_
                rintro o W7 ⟨⟨v7, rfl⟩, hP7, hb7⟩
                have hbw7 : Below w.heap.size w W7 := hbw.trans (hb7.mono hwB2)
                clear hd hb7 hP6 hrd c0 c1 c2' c3' c4 c5 hbw
                go_wp2_with fail
                go_roundw
                case rel => exact ⟨e + 1, by omega, by go_num, ⟨k1 + 1, k2 + 1, by omega, by omega, by rw [Hma.out, Hmb.out]; exact hP7.swap⟩, hbw7⟩
                case measure => simp [intOf]; omega
              · have hei3 : ¬ (e : Int) < (n3 : Int) := by omega
                have Hmb : Hid (plN m0 (ls3.take (e + 1)) = plN m0 (ls3.take e)) := by show _ = _; rw [take_over (by rw [hr3.len]; omega)]
                go_wp2_with fail
                go_roundw
                case rel => exact ⟨e + 1, by omega, by go_num, ⟨k1 + 1, k2, by omega, by omega, by rw [Hma.out, Hmb.out]; exact hP6⟩, hbw⟩
                case measure => simp [intOf]; omega
            · have hei2 : ¬ (e : Int) < (n2 : Int) := by omega
              have Hma : Hid (plN m0 (ls2.take (e + 1)) = plN m0 (ls2.take e)) := by show _ = _; rw [take_over (by rw [hr2.len]; omega)]
              have hP6 := hP
              clear hP
              by_cases hen3 : e < n3
              · have hei3 : (e : Int) < (n3 : Int) := by omega
                obtain ⟨gb, go, hpe, hcl⟩ := (hr3.below hbw).cells (by omega)
                subst hpe
                have hat := hcl e hen3
                have hrd := (hr3.below hbw).rd e hen3
                have hst := plN_take (ls := ls3) (j := e) (by rw [hr3.len]; exact hen3) m0
                clear hcl
                generalize ls3.getD e .z0 = z at *
                obtain ⟨op, i, x, y, bq, bl, bc, s, xb⟩ := z
                obtain ⟨c0, c1, c2', c3', c4, c5⟩ := hat
                dsimp only at c0 c1 c2' c3' c4 c5
                have hd := hP6.swap.does (by omega) op i x y bq bl bc s xb hrd
                rw [← hst] at hd
                obtain ⟨mb, Hmb⟩ : ∃ z, Hid (plN m0 (ls3.take (e + 1)) = z) := ⟨_, rfl⟩
                rw [Hmb.out] at hd
                clear hst
                go_wp2_with fail
                refine hd.mono ?_
                rintro o W7 ⟨⟨v7, rfl⟩, hP7, hb7⟩
                have hbw7 : Below w.heap.size w W7 := hbw.trans (hb7.mono hwB2)
                clear hd hb7 hP6 hrd c0 c1 c2' c3' c4 c5 hbw
                go_wp2_with fail
                go_roundw
                case rel => exact ⟨e + 1, by omega, by go_num, ⟨k1, k2 + 1, by omega, by omega, by rw [Hma.out, Hmb.out]; exact hP7.swap⟩, hbw7⟩
                case measure => simp [intOf]; omega
              · have hei3 : ¬ (e : Int) < (n3 : Int) := by omega
                have Hmb : Hid (plN m0 (ls3.take (e + 1)) = plN m0 (ls3.take e)) := by show _ = _; rw [take_over (by rw [hr3.len]; omega)]
                go_wp2_with fail
                go_roundw
                case rel => exact ⟨e + 1, by omega, by go_num, ⟨k1, k2, by omega, by omega, by rw [Hma.out, Hmb.out]; exact hP6⟩, hbw⟩
                case measure => simp [intOf]; omega
          · have hei : ¬ (e : Int) < (mx : Int) := by omega
            have e2 : ls2.take e = ls2 := List.take_of_length_le (by rw [hr2.len]; omega)
            have e3 : ls3.take e = ls3 := List.take_of_length_le (by rw [hr3.len]; omega)
            rw [e2, e3] at hP
            clear e2 e3
            have gP := play_any wr (hr.below hbw) hz (hr2.below hbw) hz2 hn1 hn2
            rw [plN_app, Hm0.out] at gP
            obtain ⟨ma, Hma⟩ : ∃ z, Hid (plN m0 ls2 = z) := ⟨_, rfl⟩
            obtain ⟨mb, Hmb⟩ : ∃ z, Hid (plN m0 ls3 = z) := ⟨_, rfl⟩
            have hla : Lks ma := by rw [← Hma.out]; exact plN_lks _ hlk0
            have hlb : Lks mb := by rw [← Hmb.out]; exact plN_lks _ hlk0
            rw [Hma.out] at gP hP
            rw [Hmb.out] at hP
            go_wp2_with fail
            refine gP.mono ?_
            rintro o w6 ⟨v6, rfl, gx, rfl, hxa, hb6⟩
            have hbw6 := hbw.trans (hb6.mono hbw.size)
            have gQ := play_any w6 (hr.below hbw6) hz (hr3.below hbw6) hz3 hn1 hn3
            rw [plN_app, Hm0.out, Hmb.out] at gQ
            have hP6 := hP.below hb6
            clear gP hP hb6 hbw
            go_wp2_with fail
            refine gQ.mono ?_
            rintro o w7 ⟨v7, rfl, gy, rfl, hxb, hb7⟩
            have hbw7 := hbw6.trans (hb7.mono hbw6.size)
            have hP7 := hP6.below hb7
            have hxa7 := hxa.below hb7
            obtain ⟨Za, hna⟩ := hP7.fst
            have gE := same_any hna hla (by omega) hxa7 (by omega)
            clear gQ hP6 hb7 hbw6 hxa
            go_wp2_with fail
            refine gE.mono ?_
            rintro o w8 ⟨rfl, hb8⟩
            have hbw8 := hbw7.trans (hb8.mono hbw7.size)
            obtain ⟨Zb, hnb⟩ := (hP7.below hb8).swap.fst
            have gF := same_any hnb hlb (by omega) (hxb.below hb8) (by omega)
            clear gE hb8 hbw7
            go_wp2_with fail
            refine gF.mono ?_
            rintro o w9 ⟨rfl, hb9⟩
            have hbw9 := hbw8.trans (hb9.mono hbw8.size)
            clear gF
            go_wp2_with fail
            refine (hW _).mono ?_
            rintro o w10 ⟨rfl, hb10⟩
            go_wp2_with fail
            go_ret
            exact ⟨rfl, hbw9.trans (hb10.mono hbw9.size)⟩

end Go.Proofs.Ytmnipfdcbmamnaa.M
