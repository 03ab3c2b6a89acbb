/-
  Own text: the walk of the statement 'LinksRoom'.
-/
import Derived.Test.YteajhidhfmhcfaaNBus3
namespace Go.Proofs.Yteajhidhfmhcfaa.M
open Go.ChangeShapes Go.WideShapes Go.ChangeAt Go.RowKit Go.ChangeMaps Go.MapKept Go.Maps

/-- Under way. -/
def RoI (w : World) (B g b k : Nat) (wr : World) : Prop := ∃ m, NM wr B g b k m ∧ Lks m ∧ Below w.heap.size w wr

theorem RoI.out {w : World} {B g b k : Nat} {wr : World} (h : RoI w B g b k wr) : ∃ m, NM wr B g b k m ∧ Lks m ∧ Below w.heap.size w wr := h

theorem RdN.below {w w' : World} {p : Option Addr} {n c : Nat} {ls : List Nd} (h : RdN w p n c ls) (hb : Below w.heap.size w w') : RdN w' p n c ls := by
  refine ⟨h.len, fun hn => ?_, fun j hj => ?_⟩
  · obtain ⟨b, o, e, hc⟩ := h.cells hn
    refine ⟨b, o, e, fun i hi => ?_⟩
    obtain ⟨k0, k1, k2, k3, k4, k5⟩ := hc i hi
    exact ⟨cell_below hb k0, cell_below hb k1, cell_below hb k2, cell_below hb k3, cell_below hb k4, cell_below hb k5⟩
  · obtain ⟨r1, r2⟩ := h.rd j hj
    exact ⟨r1.below hb, r2⟩

set_option linter.unusedSimpArgs false in
set_option maxRecDepth 20000 in
set_option maxHeartbeats 8000000 in
theorem walk_LinksRoom (w : World) (p : Option Addr) (n c : Nat) (ls : List Nd) (hr : RdN w p n c ls) :
    Calls Try.prog 6 #[.slice p n c] w fun r w' => r = .returned (.bool true) ∧ Below w.heap.size w w' := by
  have hW := fun W => awake_any W
  have h0b := below_alloc w (.cells #[.slice p n c] 22)
  have hA0 := At.new 22 w #[.slice p n c]
  have gS := short_list _ w.heap.size p n c ls (hA0.cell 0) (hr.below h0b)
  clear hA0
  go_enter Try.func6, Try.ntmps6
  go_wp2_with fail
  refine gS.mono ?_
  rintro o w3 ⟨⟨bb, rfl, hn150⟩, hb3⟩
  have HB := h0b.trans (hb3.mono h0b.size)
  clear gS hb3 h0b
  cases bb with
  | false =>
    go_wp2_with fail
    refine (hW _).mono ?_
    rintro o w9 ⟨rfl, hb9⟩
    go_wp2_with fail
    go_ret
    exact ⟨rfl, HB.trans (hb9.mono HB.size)⟩
  | true =>
    have hn1 := hn150 rfl
    clear hn150
    have gN := New_any w3
    go_wp2_with fail
    refine gN.mono ?_
    rintro o w4 ⟨g, b, rfl, hNB, hb4⟩
    clear gN
    have hnm4 : NM w4 w3.heap.size g b 0 ⟨fun _ _ => [], 0, 0⟩ := ⟨⟨_, hNB⟩, fun _ _ => Nat.zero_le _, (by decide), ⟨Int.le_refl _, Int.le_refl _⟩⟩
    clear hNB
    have HB4 := HB.trans (hb4.mono HB.size)
    have hwB : w.heap.size ≤ w3.heap.size := HB.size
    have hst : RoI w w3.heap.size g b 0 w4 := ⟨_, hnm4, Lks.new, HB4⟩
    clear hnm4 HB HB4 hb4
    go_wp2_with fail
    generalize w3.heap.size = B at *
    go_loopw [16] (fun i wr => ∃ (k : Nat), k ≤ n ∧ i = .int .i64 k ∧ RoI w B g b k wr) (fun i _ => n - (intOf i).toNat)
    case atStart => exact ⟨0, Nat.zero_le _, rfl, hst⟩
    case round =>
      obtain ⟨k, hk, rfl, hI⟩ := hrel
      obtain ⟨m, hnm, hlk, hbw⟩ := RoI.out hI
      clear hI hst
      by_cases hkn : k < n
      · have hki : (k : Int) < (n : Int) := by omega
        have hrk := hr.below hbw
        obtain ⟨gb, go, rfl, hcl⟩ := hrk.cells (by omega)
        have hat := hcl k hkn
        have hrd := hrk.rd k hkn
        clear hrk hcl
        generalize ls.getD k .z0 = z at *
        obtain ⟨op, i, x, y, bq, bl, bc, s, xb⟩ := z
        obtain ⟨c0, c1, c2, c3, c4, c5⟩ := hat
        dsimp only at c0 c1 c2 c3 c4 c5
        have hba := below_alloc wr (.cells #[.int .i64 op, .int .i64 i, .int .i64 x, .int .i64 y, .slice bq bl bc, .int .u64 s] 37)
        have hbx0 := At.new 37 wr #[.int .i64 op, .int .i64 i, .int .i64 x, .int .i64 y, .slice bq bl bc, .int .u64 s]
        have hd := does_any (hnm.below hba) (by omega) op i x y bq bl bc s xb ⟨hrd.1.below hba, hrd.2⟩
        obtain ⟨d0, d1, d2, d3, d4, d5⟩ := hbx0.six
        go_wp2_with fail
        refine hd.mono ?_
        rintro o W6 ⟨⟨p1, m1, cq1, rfl, hr1, hu1⟩, hnm6, hF⟩
        have hlk6 := hlk.step ⟨op, i, x, y, bq, bl, bc, s, xb⟩
        have hbw6 : Below w.heap.size w W6 := (hbw.trans (hba.mono hbw.size)).trans (hF.bel.mono hwB)
        generalize (m.step ⟨op, i, x, y, bq, bl, bc, s, xb⟩).1 = m' at *
        generalize (m.step ⟨op, i, x, y, bq, bl, bc, s, xb⟩).2 = a at *
        clear hd hF hba hbx0 c0 c1 c2 c3 c4 c5 d0 d1 d2 d3 d4 d5 hnm hrd hbw hlk hr1 hu1
        have gB := BusyM_any hnm6 hlk6 (by omega)
        go_wp2_with fail
        refine gB.mono ?_
        rintro o W7 ⟨v, rfl, pb, q, cb, ss, rfl, hBN, hRL, hqk, _, hb7⟩
        have HBN : Hid (BusyN m'.N ss) := hBN
        have hnm7 := hnm6.below hb7
        have hbw7 := hbw6.trans (hb7.mono hbw6.size)
        clear gB hBN hb7 hbw6 hnm6
        go_wp2_with fail
        have hw7 := hbw7.size
        go_loopw [26] (fun i wr => ∃ (j : Nat), j ≤ q ∧ i = .int .i64 j ∧ Below W7.heap.size W7 wr) (fun i _ => q - (intOf i).toNat)
        case atStart => exact ⟨0, Nat.zero_le _, rfl, Below.refl _ _⟩
        case round =>
          obtain ⟨j, hj, rfl, hbj⟩ := hrel
          by_cases hjq : j < q
          · have hji : (j : Int) < (q : Int) := by omega
            obtain ⟨gc, oc, rfl, hcl⟩ := (hRL.below hbj).cells (by omega)
            obtain ⟨e0, e1⟩ := hcl j hjq
            have hmem : ss.getD j (0, 0) ∈ ss := by
              have hjl : j < ss.length := by rw [hRL.len]; exact hjq
              rw [List.getD_eq_getElem?_getD, List.getElem?_eq_getElem hjl]
              exact List.getElem_mem hjl
            have hne := (HBN.out.mem _).1 hmem
            generalize ss.getD j (0, 0) = t at *
            obtain ⟨t1, t2⟩ := t
            dsimp only at e0 e1 hne
            obtain ⟨⟨hwx, _⟩, hwy, _⟩ := lk_wf (hlk6 _ _ hne)
            have hbx := below_alloc wr (.cells #[.int .i64 t1, .int .i64 t2] 33)
            have hX := At.new 33 wr #[.int .i64 t1, .int .i64 t2]
            have hnm8 := (hnm7.below hbj).below hbx
            have hb8 := hbj.trans (hbx.mono hbj.size)
            have hLL := fun W (hx : NM W B g b (k + 1) m') => LenM_any hx hwx hwy
            have hL := hLL _ hnm8
            have h8 : (m'.N t1 t2).length ≤ 8 := hnm7.few t1 t2
            have h1 : 0 < (m'.N t1 t2).length := by cases hq : m'.N t1 t2 with | nil => exact absurd hq hne | cons a b => simp
            obtain ⟨len, Hlen⟩ : ∃ z, Hid ((m'.N t1 t2).length = z) := ⟨_, rfl⟩
            rw [Hlen.out] at hL h8 h1
            have HLL : Hid (∀ W, NM W B g b (k + 1) m' → Calls Try.prog 16 #[.pointer (some ⟨g, 0, none⟩), .agg #[.int .i64 t1, .int .i64 t2]] W fun o w' => o = .returned (.int .i64 (len : Int)) ∧ Below W.heap.size W w') := fun W hx => by have := hLL W hx; rw [Hlen.out] at this; exact this
            have hd1 : decide ((len : Int) < 1) = false := decide_eq_false (by omega)
            have hd2 : decide ((8 : Int) < (len : Int)) = false := decide_eq_false (by omega)
            have hd3 : ¬ (len : Int) < 1 := by omega
            have hd4 : ¬ (8 : Int) < (len : Int) := by omega
            obtain ⟨z0, z1⟩ := hX.two
            clear hcl hmem hne hwx hwy Hlen hbj hbx h8 h1 hLL
            go_wp2_with fail
            refine hL.mono ?_
            rintro o W9 ⟨rfl, hb9⟩
            obtain ⟨z0, z1⟩ := (hX.below hb9).two
            have hL2 := HLL.out _ (hnm8.below hb9)
            have hb10 := hb8.trans (hb9.mono hb8.size)
            clear hL
            go_wp2_with fail
            refine hL2.mono ?_
            rintro o W10 ⟨rfl, hb11⟩
            have hb12 := hb10.trans (hb11.mono hb10.size)
            clear hL2
            go_wp2_with fail
            go_roundw
            case rel => exact ⟨j + 1, by omega, by go_num, hb12⟩
            case measure => simp [intOf]; omega
          · have hji : ¬ (j : Int) < (q : Int) := by omega
            have hnmz := hnm7.below hbj
            have hbz := hbw7.trans (hbj.mono hw7)
            go_wp2_with fail
            go_roundw
            case rel => exact ⟨k + 1, by omega, by go_num, m', hnmz, hlk6, hbz⟩
            case measure => simp [intOf]; omega
      · have hki : ¬ (k : Int) < (n : Int) := by omega
        go_wp2_with fail
        refine (hW _).mono ?_
        rintro o w9 ⟨rfl, hb9⟩
        go_wp2_with fail
        go_ret
        exact ⟨rfl, hbw.trans (hb9.mono hbw.size)⟩

end Go.Proofs.Yteajhidhfmhcfaa.M
