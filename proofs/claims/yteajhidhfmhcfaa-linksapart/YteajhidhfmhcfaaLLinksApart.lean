/-
  Own text: the walk of the statement 'LinksApart'.
-/
import Derived.Test.YteajhidhfmhcfaaNTwo
namespace Go.Proofs.Yteajhidhfmhcfaa.M
open Go.ChangeShapes Go.WideShapes Go.ChangeAt Go.RowKit Go.ChangeMaps Go.MapKept Go.Maps

theorem RdN.below {w w' : World} {p : Option Addr} {n c : Nat} {ls : List Nd} (h : RdN w p n c ls) (hb : Below w.heap.size w w') : RdN w' p n c ls := by
  refine ⟨h.len, fun hn => ?_, fun j hj => ?_⟩
  · obtain ⟨b, o, e, hc⟩ := h.cells hn
    refine ⟨b, o, e, fun i hi => ?_⟩
    obtain ⟨k0, k1, k2, k3, k4, k5⟩ := hc i hi
    exact ⟨cell_below hb k0, cell_below hb k1, cell_below hb k2, cell_below hb k3, cell_below hb k4, cell_below hb k5⟩
  · obtain ⟨r1, r2⟩ := h.rd j hj
    exact ⟨r1.below hb, r2⟩

/-- Under way. -/
def ApI (w : World) (B g b k : Nat) (wr : World) : Prop := ∃ m, NM (fun _ => False) wr B g b k m ∧ Lks m ∧ Below B w wr

theorem ApI.out {w : World} {B g b k : Nat} {wr : World} (h : ApI w B g b k wr) : ∃ m, NM (fun _ => False) wr B g b k m ∧ Lks m ∧ Below B w wr := h

/-- A Net and its clone, behind the clone. -/
theorem clone_two {w w' : World} {B g b n g2 b2 : Nat} {m : PN} {R2 : Int → Int → Value} (h : NM (fun _ => False) w B g b n m) (hb : Below w.heap.size w w') (hc : NB (fun _ => False) w' w.heap.size g2 b2 n m.side m.lost m.N R2) :
    NM (fun k => w.heap.size ≤ k ∧ k < w'.heap.size) w' B g b n m ∧ NM (fun _ => False) w' w.heap.size g2 b2 n m := by
  obtain ⟨⟨R, h1⟩, h2, h3, h4⟩ := h
  refine ⟨⟨⟨R, (h1.below hb).rez ⟨fun k hk => hk.2, ⟨fun hk => by have := h1.blk.lt; omega, fun hk => by have := h1.map.lt; omega⟩, fun x y hn k hk hz => ?_⟩⟩, h2, h3, h4⟩, ⟨⟨R2, hc⟩, h2, h3, h4⟩⟩
  have := (World.ownsRow.lt (h1.rows x y hn) k hk).2
  omega

/-- The clone is as it was behind a call on the Net. -/
theorem clone_kept {w w' w'' : World} {B g b n g2 b2 : Nat} {m : PN} (hc : NM (fun _ => False) w' w.heap.size g2 b2 n m) (hF : BelF (fun k => w.heap.size ≤ k ∧ k < w'.heap.size) B g b w' w'') : NM (fun _ => False) w'' w.heap.size g2 b2 n m := by
  obtain ⟨⟨R, h1⟩, h2, h3, h4⟩ := hc
  refine ⟨⟨R, h1.same hF.sz (hF.zk g2 ⟨h1.lo.1, h1.blk.lt⟩ h1.blk.lt) (hF.zk b2 ⟨h1.lo.2, h1.map.lt⟩ h1.map.lt) fun x y hn k hk => ?_⟩, h2, h3, h4⟩
  have hl := World.ownsRow.lt (h1.rows x y hn) k hk
  exact hF.zk k ⟨hl.1, hl.2⟩ hl.2

theorem At.belowB {t : TypeId} {w w' : World} {g B : Nat} {cs : Array Value} (h : At t w g cs) (hb : Below B w w') (hg : g < B) : At t w' g cs := (hb.block g hg).trans h

theorem CloneM_any {w : World} {B g b n : Nat} {m : PN} (h : NM (fun _ => False) w B g b n m) (hl : Lks m) :
    Calls Try.prog 23 #[.pointer (some ⟨g, 0, none⟩)] w fun o w' => ∃ v, o = .returned v ∧ ∃ g2 b2, v = .pointer (some ⟨g2, 0, none⟩) ∧ NM (fun k => w.heap.size ≤ k ∧ k < w'.heap.size) w' B g b n m ∧ NM (fun _ => False) w' w.heap.size g2 b2 n m ∧ Below w.heap.size w w' := by
  have h' := h
  obtain ⟨⟨R, h1⟩, h2, _⟩ := h'
  refine (Clone_any h1 h2 hl).mono ?_
  rintro o w' ⟨v, rfl, g2, b2, R2, rfl, hc, hb⟩
  obtain ⟨k1, k2⟩ := clone_two h hb hc
  exact ⟨_, rfl, g2, b2, rfl, k1, k2, hb⟩

theorem NM.few8 {Z : Nat → Prop} {w : World} {B g b n : Nat} {m : PN} (h : NM Z w B g b n m) : ∀ x y, (m.N x y).length ≤ 8 := h.few

theorem PeekM_ok {Z : Nat → Prop} {w : World} {B g b n : Nat} {m : PN} (h : NM Z w B g b n m) {x y : Int} (hx : Wf x) (hy : Wf y) (i : Nat) (hi : i < (m.N x y).length) {msg : ByteArray} (hmsg : (m.N x y).getD i ByteArray.empty = msg) :
    Calls Try.prog 18 #[.pointer (some ⟨g, 0, none⟩), .agg #[.int .i64 x, .int .i64 y], .int .i64 i] w fun o w' => (∃ p m c, o = .returned (.tuple #[.slice p m c, .int .i64 0]) ∧ Rd .u8 w' p m c (numsOf msg) ∧ RowU w' p) ∧ Below w.heap.size w w' := by
  obtain ⟨⟨R, h1⟩, _⟩ := h
  exact Peek_ok h1 hx hy i hi hmsg

set_option linter.unusedSimpArgs false in
set_option maxRecDepth 20000 in
set_option maxHeartbeats 16000000 in
theorem walk_LinksApart (w : World) (p : Option Addr) (n c : Nat) (ls : List Nd) (hr : RdN w p n c ls) (op i x y : Int) (bq : Option Addr) (bl bc : Nat) (s : Int) (xb : List Int) (hk : Nd.rd w (⟨op, i, x, y, bq, bl, bc, s, xb⟩ : Nd)) :
    Calls Try.prog 5 #[.slice p n c, .agg #[.int .i64 op, .int .i64 i, .int .i64 x, .int .i64 y, .slice bq bl bc, .int .u64 s]] w fun r w' => r = .returned (.bool true) ∧ Below w.heap.size w w' := by
  have hW := fun W => awake_any W
  have h0b := below_alloc w (.cells #[.int .i64 op, .int .i64 i, .int .i64 x, .int .i64 y, .slice bq bl bc, .int .u64 s] 37)
  have hA0 := At.new 37 w #[.int .i64 op, .int .i64 i, .int .i64 x, .int .i64 y, .slice bq bl bc, .int .u64 s]
  have h1b := below_alloc (w.alloc (.cells #[.int .i64 op, .int .i64 i, .int .i64 x, .int .i64 y, .slice bq bl bc, .int .u64 s] 37)) (.cells #[.int .i64 op, .int .i64 i, .int .i64 x, .int .i64 y, .slice bq bl bc, .int .u64 s] 37)
  have hA1 := At.moved (g2 := w.heap.size + 1) (by simp) (At.new 37 (w.alloc (.cells #[.int .i64 op, .int .i64 i, .int .i64 x, .int .i64 y, .slice bq bl bc, .int .u64 s] 37)) #[.int .i64 op, .int .i64 i, .int .i64 x, .int .i64 y, .slice bq bl bc, .int .u64 s])
  have h2b := below_alloc ((w.alloc (.cells #[.int .i64 op, .int .i64 i, .int .i64 x, .int .i64 y, .slice bq bl bc, .int .u64 s] 37)).alloc (.cells #[.int .i64 op, .int .i64 i, .int .i64 x, .int .i64 y, .slice bq bl bc, .int .u64 s] 37)) (.cells #[.slice p n c, .slice (some ⟨w.heap.size + 1, 0, none⟩) 1 1] 22)
  have hA2 := At.moved (g2 := w.heap.size + 1 + 1) (by simp) (At.new 22 ((w.alloc (.cells #[.int .i64 op, .int .i64 i, .int .i64 x, .int .i64 y, .slice bq bl bc, .int .u64 s] 37)).alloc (.cells #[.int .i64 op, .int .i64 i, .int .i64 x, .int .i64 y, .slice bq bl bc, .int .u64 s] 37)) #[.slice p n c, .slice (some ⟨w.heap.size + 1, 0, none⟩) 1 1])
  have hB1 := h0b.trans (h1b.mono h0b.size)
  have hB2 := hB1.trans (h2b.mono hB1.size)
  have hA12 := hA1.below h2b
  have hone : RdN (((w.alloc (.cells #[.int .i64 op, .int .i64 i, .int .i64 x, .int .i64 y, .slice bq bl bc, .int .u64 s] 37)).alloc (.cells #[.int .i64 op, .int .i64 i, .int .i64 x, .int .i64 y, .slice bq bl bc, .int .u64 s] 37)).alloc (.cells #[.slice p n c, .slice (some ⟨w.heap.size + 1, 0, none⟩) 1 1] 22)) (some ⟨w.heap.size + 1, 0, none⟩) 1 1 [⟨op, i, x, y, bq, bl, bc, s, xb⟩] := by
    refine ⟨rfl, fun _ => ⟨w.heap.size + 1, 0, rfl, fun j hj => ?_⟩, fun j hj => ?_⟩
    · obtain rfl : j = 0 := by omega
      exact ⟨hA12.cell 0, hA12.cell 1, hA12.cell 2, hA12.cell 3, hA12.cell 4, hA12.cell 5⟩
    · obtain rfl : j = 0 := by omega
      exact ⟨hk.1.below hB2, hk.2⟩
  have gS := short_lists _ (w.heap.size + 1 + 1) (fun j => if j = 0 then ⟨p, n, c, ls⟩ else ⟨some ⟨w.heap.size + 1, 0, none⟩, 1, 1, [⟨op, i, x, y, bq, bl, bc, s, xb⟩]⟩) 2 (by decide) (fun j hj => by
    match j, hj with
    | 0, _ => exact ⟨hA2.cell 0, hr.below hB2⟩
    | 1, _ => exact ⟨hA2.cell 1, hone⟩)
  obtain ⟨a0, a1, a2, a3, a4, a5⟩ := hA0.six
  have hA02 := (hA0.below h1b).below h2b
  clear hA0 hA1 hA2 hA12 hone hB1 h0b h1b h2b
  go_enter Try.func5, Try.ntmps5
  go_wp2_with fail
  refine gS.mono ?_
  rintro o w3 ⟨⟨bb, rfl, hn150⟩, hb3⟩
  have HB := hB2.trans (hb3.mono hB2.size)
  have hA3 := hA02.below hb3
  clear gS hb3 hB2 hA02 a0 a1 a2 a3 a4 a5
  cases bb with
  | false =>
    go_wp2_with fail
    refine (hW _).mono ?_
    rintro o w9 ⟨rfl, hb9⟩
    go_wp2_with fail
    go_ret
    exact ⟨rfl, HB.trans (hb9.mono HB.size)⟩
  | true =>
    have hn1 : n ≤ 150 := hn150 rfl 0 (by decide)
    clear hn150
    have gN := New_any (Z := fun _ => False) w3 (fun _ h => h.elim)
    go_wp2_with fail
    refine gN.mono ?_
    rintro o w4 ⟨g, b, rfl, hNB, hb4⟩
    clear gN
    have hnm4 : NM (fun _ => False) w4 w3.heap.size g b 0 ⟨fun _ _ => [], 0, 0⟩ := ⟨⟨_, hNB⟩, fun _ _ => Nat.zero_le _, (by decide), ⟨Int.le_refl _, Int.le_refl _⟩⟩
    clear hNB
    have HB4 := HB.trans (hb4.mono HB.size)
    have hwB : w.heap.size ≤ w3.heap.size := HB.size
    have hA4 := hA3.below hb4
    have hgx : w.heap.size < w3.heap.size := hA3.lt
    have hst : ApI w4 w3.heap.size g b 0 w4 := ⟨_, hnm4, Lks.new, Below.refl _ _⟩
    have HhB : Hid (w3.heap.size ≤ w4.heap.size) := hb4.size
    have hgB := hnm4
    clear hnm4 HB hb4 hA3 hgB
    go_wp2_with fail
    have hcut : w.heap.size ≤ w3.heap.size := hwB
    generalize hB3 : w3.heap.size = B at *
    go_loopw [27] (fun i wr => ∃ (k : Nat), k ≤ n ∧ i = .int .i64 k ∧ ApI w4 B g b k wr) (fun i _ => n - (intOf i).toNat)
    case atStart => exact ⟨0, Nat.zero_le _, rfl, hst⟩
    case round =>
      obtain ⟨k, hkk, rfl, hI⟩ := hrel
      obtain ⟨m, hnm, hlk, hbB⟩ := ApI.out hI
      have hBw : B ≤ wr.heap.size := Nat.le_trans HhB.out hbB.size
      have hbw : Below w.heap.size w wr := HB4.trans (hbB.mono hcut)
      clear hI hst
      by_cases hkn : k < n
      · have hki : (k : Int) < (n : Int) := by omega
        have hrk := hr.below hbw
        obtain ⟨gb, go, rfl, hcl⟩ := hrk.cells (by omega)
        have hat := hcl k hkn
        have hrd := hrk.rd k hkn
        clear hrk hcl
        generalize ls.getD k .z0 = z at *
        obtain ⟨op', i', x', y', bq', bl', bc', s', xb'⟩ := z
        obtain ⟨c0, c1, c2, c3, c4, c5⟩ := hat
        dsimp only at c0 c1 c2 c3 c4 c5
        have hba := below_alloc wr (.cells #[.int .i64 op', .int .i64 i', .int .i64 x', .int .i64 y', .slice bq' bl' bc', .int .u64 s'] 37)
        have hbx0 := At.new 37 wr #[.int .i64 op', .int .i64 i', .int .i64 x', .int .i64 y', .slice bq' bl' bc', .int .u64 s']
        have hd := does_any (hnm.below hba) (by omega) op' i' x' y' bq' bl' bc' s' xb' ⟨hrd.1.below hba, hrd.2⟩
        obtain ⟨d0, d1, d2, d3, d4, d5⟩ := hbx0.six
        go_wp2_with fail
        refine hd.mono ?_
        rintro o W6 ⟨⟨p1, m1, cq1, rfl, hr1, hu1⟩, hnm6, hF⟩
        have hlk6 := hlk.step ⟨op', i', x', y', bq', bl', bc', s', xb'⟩
        have hbB6 : Below B w4 W6 := (hbB.trans (hba.mono hBw)).trans hF.bel
        generalize (m.step ⟨op', i', x', y', bq', bl', bc', s', xb'⟩).1 = m' at *
        generalize (m.step ⟨op', i', x', y', bq', bl', bc', s', xb'⟩).2 = a at *
        clear hd hF hba hbx0 c0 c1 c2 c3 c4 c5 d0 d1 d2 d3 d4 d5 hnm hrd hbw hlk hr1 hu1 hbB
        go_wp2_with fail
        go_roundw
        case rel => exact ⟨k + 1, by omega, by go_num, m', hnm6, hlk6, hbB6⟩
        case measure => simp [intOf]; omega
      · have hki : ¬ (k : Int) < (n : Int) := by omega
        have hkn' : k = n := by omega
        have gC := CloneM_any hnm hlk
        have hA5 := hA4.belowB hbB hgx
        clear hnm hr
        go_wp2_with fail
        refine gC.mono ?_
        rintro o w5 ⟨v, rfl, g2, b2, rfl, hnm5, hc5, hb5⟩
        have hA6 := hA5.below hb5
        have hbw5 := hbw.trans (hb5.mono hbw.size)
        have hBw5 : B ≤ w5.heap.size := Nat.le_trans hBw hb5.size
        have hd := does_any hnm5 (by omega) op i x y bq bl bc s xb ⟨hk.1.below hbw5, hk.2⟩
        obtain ⟨d0, d1, d2, d3, d4, d5⟩ := hA6.six
        clear gC hA5 hb5 hbw
        go_wp2_with fail
        refine hd.mono ?_
        rintro o W6 ⟨⟨p1, m1, cq1, rfl, hr1, hu1⟩, hnm6, hF⟩
        have hc6 := clone_kept hc5 hF
        have hlk6 := hlk.step ⟨op, i, x, y, bq, bl, bc, s, xb⟩
        have hA7 := hA6.belowB hF.bel hgx
        have hbw6 : Below w.heap.size w W6 := hbw5.trans (hF.bel.mono hcut)
        have hso := fun (ho : ¬ 6 < wrap64 ((IntKind.u64.wrap op).tmod 9)) t1 t2 ht => step_other m (⟨op, i, x, y, bq, bl, bc, s, xb⟩ : Nd) ho (x := t1) (y := t2) ht
        dsimp only at hso
        generalize (m.step ⟨op, i, x, y, bq, bl, bc, s, xb⟩).1 = m' at *
        generalize (m.step ⟨op, i, x, y, bq, bl, bc, s, xb⟩).2 = a at *
        obtain ⟨d0, d1, d2, d3, d4, d5⟩ := hA7.six
        clear hd hF hA6 hbw5 hnm5 hc5 hr1 hu1
        by_cases hop : 6 < wrap64 ((IntKind.u64.wrap op).tmod 9)
        · have e6 : decide (6 < wrap64 ((IntKind.u64.wrap op).tmod 9)) = true := decide_eq_true hop
          clear hso
          go_wp2_with fail
          refine (hW _).mono ?_
          rintro o w9 ⟨rfl, hb9⟩
          go_wp2_with fail
          go_ret
          exact ⟨rfl, hbw6.trans (hb9.mono hbw6.size)⟩
        · have e6 : decide (6 < wrap64 ((IntKind.u64.wrap op).tmod 9)) = false := decide_eq_false hop
          have HSO : Hid (∀ t1 t2, ¬ (t1 = x ∧ t2 = y) → m'.N t1 t2 = m.N t1 t2) := fun t1 t2 ht => hso hop t1 t2 ht
          have gB := BusyM_any hc6 hlk (by omega)
          clear hso
          go_wp2_with fail
          refine gB.mono ?_
          rintro o W7 ⟨v, rfl, pb, q, cb, ss, rfl, hBN, hRL, hqk, _, hb7⟩
          have HBN : Hid (BusyN m.N ss) := hBN
          have hnm7 := hnm6.below hb7
          have hc7 := hc6.below hb7
          have hA8 := hA7.below hb7
          have hbw7 := hbw6.trans (hb7.mono hbw6.size)
          clear gB hBN hb7 hbw6 hnm6 hc6 hA7 d0 d1 d2 d3 d4 d5
          go_wp2_with fail
          have hw7 := hbw7.size
          go_loopw [51] (fun i wr => ∃ (j : Nat), j ≤ q ∧ i = .int .i64 j ∧ Below W7.heap.size W7 wr) (fun i _ => q - (intOf i).toNat)
          case atStart => exact ⟨0, Nat.zero_le _, rfl, Below.refl _ _⟩
          case round =>
            obtain ⟨j, hj, rfl, hbj⟩ := hrel
            by_cases hjq : j < q
            · have hji : (j : Int) < (q : Int) := by omega
              obtain ⟨gc, oc, rfl, hcl⟩ := (hRL.below hbj).cells (by omega)
              obtain ⟨e0, e1⟩ := hcl j hjq
              have hmem : ss.getD j (0, 0) ∈ ss := by
                have hjl : j < ss.length := by rw [hRL.len]; exact hjq
                rw [List.getD_eq_getElem?_getD, List.getElem?_eq_getElem hjl]
                exact List.getElem_mem hjl
              have hne := (HBN.out.mem _).1 hmem
              generalize ss.getD j (0, 0) = t at *
              obtain ⟨t1, t2⟩ := t
              dsimp only at e0 e1 hne
              obtain ⟨⟨hwx, _⟩, hwy, _⟩ := lk_wf (hlk _ _ hne)
              have hbx := below_alloc wr (.cells #[.int .i64 t1, .int .i64 t2] 33)
              have hX := At.new 33 wr #[.int .i64 t1, .int .i64 t2]
              have hb8 := hbj.trans (hbx.mono hbj.size)
              have hnm8 := hnm7.below hb8
              have hc8 := hc7.below hb8
              have hA9 := hA8.below hb8
              have hEq := eqlLk t1 t2 x y
              obtain ⟨z0, z1⟩ := hX.two
              obtain ⟨d0, d1, d2, d3, d4, d5⟩ := hA9.six
              clear hcl hmem
              by_cases hsame : t1 = x ∧ t2 = y
              · have hEq2 : ∀ w, (binOp .eql 33 (.agg #[.int .i64 t1, .int .i64 t2]) (.agg #[.int .i64 x, .int .i64 y])).run Try.prog w = .ok (.bool true) w := fun w => by rw [hEq w, decide_eq_true hsame]
                clear hEq hsame hnm8 hc8 hwx hwy hne
                go_wp2_with fail
                go_roundw
                case rel => exact ⟨j + 1, by omega, by go_num, hb8⟩
                case measure => simp [intOf]; omega
              · have hEq2 : ∀ w, (binOp .eql 33 (.agg #[.int .i64 t1, .int .i64 t2]) (.agg #[.int .i64 x, .int .i64 y])).run Try.prog w = .ok (.bool false) w := fun w => by rw [hEq w, decide_eq_false hsame]
                have hNN := HSO.out t1 t2 hsame
                have h8 : (m.N t1 t2).length ≤ 8 := hc8.few t1 t2
                obtain ⟨ln, Hln⟩ : ∃ z, Hid ((m.N t1 t2).length = z) := ⟨_, rfl⟩
                clear hEq hsame hbx hbj
                go_wp2_with fail
                clear z0 z1 d0 d1 d2 d3 d4 d5 hEq2 e0 e1
                generalize (wr.alloc (.cells #[.int .i64 t1, .int .i64 t2] 33)) = w9 at *
                generalize wr.heap.size = gx at *
                have cLn : ∀ W, Below w9.heap.size w9 W → Calls Try.prog 16 #[.pointer (some ⟨g, 0, none⟩), .agg #[.int .i64 t1, .int .i64 t2]] W fun o w' => o = .returned (.int .i64 (ln : Int)) ∧ Below W.heap.size W w' := fun W hW9 => by
                  have := LenM_any (hnm8.below hW9) hwx hwy
                  rw [hNN, Hln.out] at this
                  exact this
                have cLc : ∀ W, Below w9.heap.size w9 W → Calls Try.prog 16 #[.pointer (some ⟨g2, 0, none⟩), .agg #[.int .i64 t1, .int .i64 t2]] W fun o w' => o = .returned (.int .i64 (ln : Int)) ∧ Below W.heap.size W w' := fun W hW9 => by
                  have := LenM_any (hc8.below hW9) hwx hwy
                  rw [Hln.out] at this
                  exact this
                rw [Hln.out] at h8
                have hS9 : Bl w9 w9.drew := (Below.refl _ _).drew
                refine wp_region_det [0, 1, 2, 3, 4, 5, 6] (fun W => W.rangeAt gx 0 [.int .i64 t1, .int .i64 t2] ∧ Below w9.heap.size w9 W) (Bl w9) (by kernel_rfl) hS9 ?_
                refine wpDet_take ?vA1 (Bl.stays w9) (fun W h => ⟨hX.rangeB h, Bl.out' h⟩) (i := 0) rfl (by kernel_rfl) (by kernel_rfl) (by kernel_rfl) (by kernel_rfl) (fun _ _ _ h => h) (Gives.value (by rfl) ?yA1) ?rA1
                case yA1 => (intro w' hSw; go_simp; try with_reducible rfl)
                (try simp only [Act.put, List.getElem_toArray, List.getElem_cons_zero, List.getElem_cons_succ, List.setIfInBounds_toArray, List.set_cons_zero, List.set_cons_succ])
                refine wpDet_take _ (Bl.stays w9) (fun W h => ⟨hX.rangeB h, Bl.out' h⟩) (i := 1) rfl (by kernel_rfl) (by kernel_rfl) (by kernel_rfl) (by kernel_rfl) (fun _ _ _ h => h) (Gives.of_yields (yieldsIf_load_mid (by rfl) _ _ rfl _ _ rfl _ _ (fun W h => h.1) Try.underlying33 rfl sizeLk)) ?_
                (try simp only [Act.put, List.getElem_toArray, List.getElem_cons_zero, List.getElem_cons_succ, List.setIfInBounds_toArray, List.set_cons_zero, List.set_cons_succ])
                refine wpDet_take (.int .i64 (ln : Int)) (Bl.stays w9) (fun W h => ⟨hX.rangeB h, Bl.out' h⟩) (i := 2) rfl (by kernel_rfl) (by kernel_rfl) (by kernel_rfl) (by kernel_rfl) (fun _ _ _ h => h) (Gives.call 16 #[.pointer (some ⟨g, 0, none⟩), .agg #[.int .i64 t1, .int .i64 t2]] (by rfl) (fun _ => by first | (go_simp; done) | (go_simp; rfl)) (fun W hW => cLn W hW.2)) ?_
                (try simp only [Act.put, List.getElem_toArray, List.getElem_cons_zero, List.getElem_cons_succ, List.setIfInBounds_toArray, List.set_cons_zero, List.set_cons_succ])
                refine wpDet_take ?vA2 (Bl.stays w9) (fun W h => ⟨hX.rangeB h, Bl.out' h⟩) (i := 3) rfl (by kernel_rfl) (by kernel_rfl) (by kernel_rfl) (by kernel_rfl) (fun _ _ _ h => h) (Gives.value (by rfl) ?yA2) ?rA2
                case yA2 => (intro w' hSw; go_simp; try with_reducible rfl)
                (try simp only [Act.put, List.getElem_toArray, List.getElem_cons_zero, List.getElem_cons_succ, List.setIfInBounds_toArray, List.set_cons_zero, List.set_cons_succ])
                refine wpDet_take _ (Bl.stays w9) (fun W h => ⟨hX.rangeB h, Bl.out' h⟩) (i := 4) rfl (by kernel_rfl) (by kernel_rfl) (by kernel_rfl) (by kernel_rfl) (fun _ _ _ h => h) (Gives.of_yields (yieldsIf_load_mid (by rfl) _ _ rfl _ _ rfl _ _ (fun W h => h.1) Try.underlying33 rfl sizeLk)) ?_
                (try simp only [Act.put, List.getElem_toArray, List.getElem_cons_zero, List.getElem_cons_succ, List.setIfInBounds_toArray, List.set_cons_zero, List.set_cons_succ])
                refine wpDet_take (.int .i64 (ln : Int)) (Bl.stays w9) (fun W h => ⟨hX.rangeB h, Bl.out' h⟩) (i := 5) rfl (by kernel_rfl) (by kernel_rfl) (by kernel_rfl) (by kernel_rfl) (fun _ _ _ h => h) (Gives.call 16 #[.pointer (some ⟨g2, 0, none⟩), .agg #[.int .i64 t1, .int .i64 t2]] (by rfl) (fun _ => by first | (go_simp; done) | (go_simp; rfl)) (fun W hW => cLc W hW.2)) ?_
                (try simp only [Act.put, List.getElem_toArray, List.getElem_cons_zero, List.getElem_cons_succ, List.setIfInBounds_toArray, List.set_cons_zero, List.set_cons_succ])
                refine wpDet_take ?vA3 (Bl.stays w9) (fun W h => ⟨hX.rangeB h, Bl.out' h⟩) (i := 6) rfl (by kernel_rfl) (by kernel_rfl) (by kernel_rfl) (by kernel_rfl) (fun _ _ _ h => h) (Gives.value (by rfl) ?yA3) ?rA3
                case yA3 => (intro w' hSw; go_simp; try with_reducible rfl)
                (try simp only [Act.put, List.getElem_toArray, List.getElem_cons_zero, List.getElem_cons_succ, List.setIfInBounds_toArray, List.set_cons_zero, List.set_cons_succ])
                refine wpDet_done (by kernel_rfl) (fun W10 hW10 => ?_) _

                have hb10 := Bl.out' hW10
                have hX10 := hX.below hb10
                have hnm10 := hnm8.below hb10
                have hc10 := hc8.below hb10
                have hbj10 := hb8.trans (hb10.mono hb8.size)
                have hLc := LenM_any hc10 hwx hwy
                rw [Hln.out] at hLc
                obtain ⟨z0, z1⟩ := hX10.two
                clear cLn cLc hW10 hb10 hnm8 hc8 hA9 hX hb8
                go_wp2_with fail
                refine hLc.mono ?_
                rintro o W11 ⟨rfl, hb11⟩
                have hX11 := hX10.below hb11
                have hnm11 := hnm10.below hb11
                have hc11 := hc10.below hb11
                have hbj11 := hbj10.trans (hb11.mono hbj10.size)
                clear hLc z0 z1 hX10 hnm10 hc10 hb11 hbj10
                go_wp2_with fail
                go_loopw [69] (fun ix wq => ∃ (e : Nat), e ≤ ln ∧ ix = .int .i64 e ∧ Below W11.heap.size W11 wq) (fun ix _ => ln - (intOf ix).toNat)
                case atStart => exact ⟨0, Nat.zero_le _, rfl, Below.refl _ _⟩
                case round =>
                  obtain ⟨e, he, rfl, hbe⟩ := hrel
                  by_cases hel : e < ln
                  · have hei : (e : Int) < (ln : Int) := by omega
                    have hXe := hX11.below hbe
                    obtain ⟨msg, Hmsg⟩ : ∃ z, Hid ((m.N t1 t2).getD e ByteArray.empty = z) := ⟨_, rfl⟩
                    have gP := PeekM_ok (hnm11.below hbe) hwx hwy e (by rw [hNN, Hln.out]; exact hel) (msg := msg) (by rw [hNN]; exact Hmsg.out)
                    obtain ⟨z0, z1⟩ := hXe.two
                    go_wp2_with fail
                    refine gP.mono ?_
                    rintro o W12 ⟨⟨p1, m1, q1, rfl, hr1, _⟩, hb12⟩
                    have gQ := PeekM_ok ((hc11.below hbe).below hb12) hwx hwy e (by rw [Hln.out]; exact hel) (msg := msg) Hmsg.out
                    obtain ⟨z0, z1⟩ := (hXe.below hb12).two
                    have hbe12 := hbe.trans (hb12.mono hbe.size)
                    clear gP hb12
                    go_wp2_with fail
                    refine gQ.mono ?_
                    rintro o W13 ⟨⟨p2, m2, q2, rfl, hr2, _⟩, hb13⟩
                    have hs1 := (hr1.below hb13).str
                    have hs2 := hr2.str
                    have hbe13 := hbe12.trans (hb13.mono hbe12.size)
                    clear gQ hb13 z0 z1 hr1 hr2
                    go_wp2_with fail
                    go_roundw
                    case rel => exact ⟨e + 1, by omega, by go_num, hbe13⟩
                    case measure => simp [intOf]; omega
                  · have hei : ¬ (e : Int) < (ln : Int) := by omega
                    have hbz := hbj11.trans (hbe.mono hbj11.size)
                    go_wp2_with fail
                    go_roundw
                    case rel => exact ⟨j + 1, by omega, by go_num, hbz⟩
                    case measure => simp [intOf]; omega
            · have hji : ¬ (j : Int) < (q : Int) := by omega
              have hbz := hbw7.trans (hbj.mono hw7)
              go_wp2_with fail
              refine (hW _).mono ?_
              rintro o w9 ⟨rfl, hb9⟩
              go_wp2_with fail
              go_ret
              exact ⟨rfl, hbz.trans (hb9.mono hbz.size)⟩

end Go.Proofs.Yteajhidhfmhcfaa.M
