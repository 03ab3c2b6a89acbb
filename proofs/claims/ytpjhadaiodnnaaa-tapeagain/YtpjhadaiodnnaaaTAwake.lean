/-
  Own text: the example of the statements over tapes.
-/
import Derived.Test.YtpjhadaiodnnaaaTEq
namespace Go.Proofs.Ytpjhadaiodnnaaa.M
open Go.ChangeShapes Go.WideShapes Go.ChangeAt Go.RowKit
set_option linter.unusedSimpArgs false

theorem Crash_S (w : World) (L a g gt : Nat) (m : PD) (t : TP) (hT : TSt w L a g gt m t) (hm : Good m) :
    Calls Try.prog 28 #[.pointer (some ⟨g, 0, none⟩), .slice none 0 0] w fun e w' => e = .returned (.int .i64 0) ∧ DSt w' L a g (m.fall []) ∧ Below L w w' := by
  obtain ⟨own, d, pb, nb, cb, pr, cr, vs, hD, hB, hgt⟩ := hT
  refine (Crash_gen w L own a g d m hD.da hm.r0 hm.up hm.few none 0 0 [] (Rd.empty _ _ _ _ (fun _ => rfl)) (fun x e => by cases e) (by decide)).mono ?_
  rintro e w' ⟨rfl, d2, h1, h2⟩
  exact ⟨rfl, ⟨own, d2, hD.mv h1 h2.size (fun _ _ => rfl)⟩, h2.lowL hD.lw fun k hk e => hD.no hgt hk (i := 0) (Or.inl e)⟩

theorem Start_S (w : World) (L a g : Nat) (m : PD) (hT : DSt w L a g m) (hr : 0 < m.room) :
    Calls Try.prog 36 #[.pointer (some ⟨g, 0, none⟩)] w fun e w' => e = .returned (.int .i64 0) ∧ DSt w' L a g { m with down := false } ∧ Below L w w' := by
  obtain ⟨own, d, hD⟩ := hT
  refine (Start_ok w L own a g d m hD.da hr).mono ?_
  rintro e w' ⟨rfl, h1, h2⟩
  exact ⟨rfl, ⟨own, _, hD.mv h1 h2.size (fun _ _ => rfl)⟩, h2.lowL hD.lw fun k hk e => by have := hD.lg; have e2 : k = g := e; omega⟩

/-- A byte slice that a constant text became. -/
theorem rd_byte (w : World) (x : Int) : Rd .u8 (w.alloc (.cells #[.int .u8 x] 5 (1, 2))) (some ⟨w.heap.size, 0, none⟩) 1 1 [x] := by
  have hrow : (w.alloc (.cells #[.int .u8 x] 5 (1, 2))).heap[w.heap.size]? = some (.cells #[.int .u8 x] 5 (1, 2)) := heap_alloc_new _ _
  refine ⟨rfl, Nat.le_refl _, (fun e => by cases e), fun _ => ⟨_, 0, rfl, fun i hi => ?_⟩⟩
  unfold World.cell?
  dsimp only
  rw [hrow]
  match i, hi with
  | 0, _ => rfl

/-- One text in a slice. -/
theorem rdv_one (w : World) (x : ByteArray) : RdV (w.alloc (.cells #[.string x] 9)) (some ⟨w.heap.size, 0, none⟩) 1 1 (txt [x]) := by
  refine ⟨rfl, Nat.le_refl _, (fun e => by cases e), fun _ => ⟨_, 0, rfl, fun i hi => ?_⟩⟩
  match i, hi with
  | 0, _ => simp [txt]

def mq0 : PD := pd0 2097152
def mq1 : PD := svM mq0 0 ⟨1, [], []⟩
def mq2 : PD := { mq1 with f := upP mq1.f 0 { mq1.f 0 with told := (mq1.f 0).told ++ sealL [97] } }
def mq3 : PD := { mq2 with f := upP mq2.f 0 ⟨(mq2.f 0).told, (mq2.f 0).told, false⟩ }
def mq4 : PD := { mq3 with f := upP mq3.f 0 { mq3.f 0 with told := (mq3.f 0).told ++ sealL [98] } }
def mq6 : PD := { mq4.fall [] with down := false }

theorem good0 : Good mq0 := ⟨by decide, by decide, rfl, ⟨by decide +kernel, by decide +kernel, by decide +kernel, by decide +kernel⟩, rfl⟩
theorem good1 : Good mq1 := ⟨by decide, by decide, rfl, ⟨by decide +kernel, by decide +kernel, by decide +kernel, by decide +kernel⟩, rfl⟩
theorem good2 : Good mq2 := ⟨by decide, by decide, rfl, ⟨by decide +kernel, by decide +kernel, by decide +kernel, by decide +kernel⟩, rfl⟩
theorem good3 : Good mq3 := ⟨by decide, by decide, rfl, ⟨by decide +kernel, by decide +kernel, by decide +kernel, by decide +kernel⟩, rfl⟩
theorem good4 : Good mq4 := ⟨by decide, by decide, rfl, ⟨by decide +kernel, by decide +kernel, by decide +kernel, by decide +kernel⟩, rfl⟩
theorem good6 : Good mq6 := ⟨by decide, by decide, rfl, ⟨by decide +kernel, by decide +kernel, by decide +kernel, by decide +kernel⟩, rfl⟩

theorem sc0 : scT (fun i => (mq0.f i).told) 2 = (1, .z0, false) := by kernel_rfl
theorem sc6 : scT (fun i => (mq6.f i).told) 2 = (0, ⟨1, [], [[97]]⟩, true) := by kernel_rfl

theorem by6 : ∀ i, i < 2 → By (mq6.f i).told := by
  unfold By
  decide +kernel

theorem rok (gen : Int) (hg : 0 ≤ gen ∧ gen ≤ 1099511627776) (recs : List (List Int)) (hl : recs.length ≤ 1) (h : ∀ i, i < recs.length → By (recs.getD i []) ∧ (recs.getD i []).length ≤ 8192) : PR.ok ⟨gen, [], recs⟩ := ⟨hg, ⟨Nat.zero_le _, By.nil⟩, Nat.le_trans hl (by decide), h⟩

set_option maxRecDepth 20000 in
set_option maxHeartbeats 2000000 in
theorem begun_any (w : World) : Calls Try.prog 18 #[] w fun e w' => ∃ g gt, e = .returned (.tuple #[.pointer (some ⟨g, 0, none⟩), .pointer (some ⟨gt, 0, none⟩), .bool true]) ∧ TSo w' w.heap.size 0 g gt mq1 ⟨0, 0, ⟨1, [], []⟩⟩ ∧ Below w.heap.size w w' := by
  have hN := New_ok w 0 2097152 (by decide) (by decide)
  go_enter Try.func18, Try.ntmps18
  go_wp2_with fail
  refine hN.mono ?_
  rintro e w1 ⟨rfl, h1, hb1⟩
  clear hN
  have hD : DSt w1 w.heap.size 0 w.heap.size mq0 := ⟨_, _, h1, hb1.size, Nat.le_refl _, fun _ _ => rfl⟩
  have hO := TOpen_S w1 w.heap.size 0 w.heap.size mq0 (by decide) hD good0 1 .z0 false sc0 (fun i _ => By.nil) (Nat.le_refl _) (rok 0 (by decide) [] (by decide) (fun _ h => absurd h (Nat.not_lt_zero _))) (by decide) (fun _ => by decide +kernel)
  have HB1 : Hid (Below w.heap.size w w1) := hb1
  clear h1 hb1 hD
  obtain ⟨g, HG⟩ : ∃ z, Hid (z = w.heap.size) := ⟨_, rfl⟩
  have HO : Hid (Calls Try.prog 13 #[.pointer (some ⟨g, 0, none⟩)] w1 fun e w' => (∃ gt, e = .returned (.tuple #[.pointer (some ⟨gt, 0, none⟩), .int .i64 0]) ∧ TSo w' w.heap.size 0 g gt mq1 ⟨0, 0, ⟨1, [], []⟩⟩) ∧ Below w.heap.size w1 w') := by
    show Calls _ _ _ _ _
    rw [HG.out]
    refine hO.mono ?_
    rintro e w' ⟨⟨gt, rfl, h | h⟩, hb⟩
    · exact absurd h.1 (by decide)
    · exact ⟨⟨gt, rfl, h.2⟩, hb⟩
  clear hO
  rw [← HG.out]
  go_wp2_with fail
  refine HO.out.mono ?_
  rintro e w2 ⟨⟨gt, rfl, hT⟩, hb2⟩
  have HB2 : Hid (Below w.heap.size w w2) := HB1.out.trans hb2
  clear hb2
  go_wp2_with fail
  go_ret3
  exact ⟨g, gt, rfl, hT, HB2.out⟩

/-- Put of one byte that a constant text became. -/
theorem aw_put (w : World) (L g gt : Nat) (m m' : PD) (t t' : TP) (x : Int) (hx : 0 ≤ x ∧ x < 256) (hT : TSo w L 0 g gt m t) (hm : Good m) (hf : t.file ≤ 1) (hc : t.r.recs.length < 1000000) (hr : m.used + (sealL [x]).length ≤ m.room) (hm' : { m with f := upP m.f t.file { m.f t.file with told := (m.f t.file).told ++ sealL [x] } } = m') (ht' : ⟨t.file, t.kept, ⟨t.r.gen, t.r.base, t.r.recs ++ [[x]]⟩⟩ = t') :
    Calls Try.prog 23 #[.pointer (some ⟨gt, 0, none⟩), .slice (some ⟨w.heap.size, 0, none⟩) 1 1] (w.alloc (.cells #[.int .u8 x] 5 (1, 2))) fun e w' => e = .returned (.int .i64 0) ∧ TSo w' L 0 g gt m' t' ∧ Below L w w' := by
  have hL : L ≤ w.heap.size := by obtain ⟨_, _, _, _, _, _, _, _, _, h, _⟩ := hT; exact h.lw
  refine (TPut_S w _ L 0 g gt m t (by decide) hT (below_alloc w _) hm hf hc _ 1 1 [x] (rd_byte w x) (By.cons hx By.nil) (by decide) (fun z e _ => by cases e; exact Or.inl (Nat.le_refl _)) hr).mono ?_
  rintro e w' ⟨rfl, h1, h2⟩
  rw [hm', ht'] at h1
  exact ⟨rfl, h1, ((below_alloc w _).mono hL).trans h2⟩

theorem x_str (p : Option Addr) (c : Nat) (w : World) (h : Rd .u8 w p 1 c [120]) : (convert 22 9 (.slice p 1 c)).run Try.prog w = .ok (.string ⟨#[120]⟩) w := by
  rw [h.str]
  rfl

set_option maxRecDepth 20000 in
set_option maxHeartbeats 4000000 in
theorem awake_any (w : World) : Calls Try.prog 8 #[] w fun e w' => e = .returned (.bool true) ∧ Below w.heap.size w w' := by
  have hN := begun_any w
  have hcv := fun (w : World) (C : Array Value) (n c : Nat) => Lib.run_convert_bytes_const (P := Try.prog) w 22 5 C n c Try.underlying22 Try.underlying5
  obtain ⟨L, HL⟩ : ∃ z, Hid (z = w.heap.size) := ⟨_, rfl⟩
  rw [← HL.out] at hN ⊢
  go_enter Try.func8, Try.ntmps8
  go_wp2_with fail
  refine hN.mono ?_
  rintro e w1 ⟨g, gt, rfl, T1, hb1⟩
  clear hN
  have HB1 : Hid (Below L w w1) := hb1
  have hP := aw_put w1 L g gt mq1 mq2 ⟨0, 0, ⟨1, [], []⟩⟩ ⟨0, 0, ⟨1, [], [[97]]⟩⟩ 97 (by decide) T1 good1 (by decide) (by decide) (by decide +kernel) rfl rfl
  clear hb1 T1
  go_wp2_with fail
  refine hP.mono ?_
  rintro e w2 ⟨rfl, T2, hb2⟩
  clear hP
  have HB2 : Hid (Below L w w2) := HB1.out.trans hb2
  have hS := TSync_S w2 L 0 g gt mq2 _ (by decide) T2 good2 (by decide)
  clear hb2 T2
  go_wp2_with fail
  refine hS.mono ?_
  rintro e w3 ⟨rfl, T3, hb3⟩
  clear hS
  have HB3 : Hid (Below L w w3) := HB2.out.trans hb3
  have hP := aw_put w3 L g gt mq3 mq4 ⟨0, 1, ⟨1, [], [[97]]⟩⟩ ⟨0, 1, ⟨1, [], [[97], [98]]⟩⟩ 98 (by decide) T3 good3 (by decide) (by decide) (by decide +kernel) rfl rfl
  clear hb3 T3
  go_wp2_with fail
  refine hP.mono ?_
  rintro e w4 ⟨rfl, T4, hb4⟩
  clear hP
  have HB4 : Hid (Below L w w4) := HB3.out.trans hb4
  have HT4 : Hid (TSo w4 L 0 g gt mq4 ⟨0, 1, ⟨1, [], [[97], [98]]⟩⟩) := T4
  have hK : Calls Try.prog 35 #[.pointer (some ⟨gt, 0, none⟩)] w4 fun e w' => e = .returned (.int .i64 1) ∧ Below w4.heap.size w4 w' := by
    obtain ⟨own, d, pb, nb, cb, pr, cr, vs, Bv, hD, hB, hgt, hO, hBv⟩ := T4
    exact TKept_ok w4 gt g 1 (hB.blk.cell 0) (hB.blk.cell 2)
  clear hb4 T4
  go_wp2_with fail
  refine hK.mono ?_
  rintro e w5 ⟨rfl, hb5⟩
  clear hK
  have HB5 : Hid (Below L w w5) := HB4.out.trans (hb5.mono (Nat.le_trans (by rw [HL.out]; exact Nat.le_refl _) HB4.out.size))
  have hC := Crash_S w5 L 0 g gt mq4 _ (HT4.out.below hb5).t good4
  clear hb5
  go_wp2_with fail
  refine hC.mono ?_
  rintro e w6 ⟨rfl, D6, hb6⟩
  clear hC
  have HB6 : Hid (Below L w w6) := HB5.out.trans hb6
  have hC := Start_S w6 L 0 g _ D6 (by decide)
  clear hb6 D6
  go_wp2_with fail
  refine hC.mono ?_
  rintro e w7 ⟨rfl, D7, hb7⟩
  clear hC
  have HB7 : Hid (Below L w w7) := HB6.out.trans hb7
  have hO := TOpen_S w7 L 0 g mq6 (by decide) D7 good6 0 ⟨1, [], [[97]]⟩ true sc6 by6 (by decide) (rok 1 (by decide) [[97]] (by decide) (by unfold By; decide)) (by decide) (fun h => by cases h)
  have HO : Hid (Calls Try.prog 13 #[.pointer (some ⟨g, 0, none⟩)] w7 fun e w' => (∃ gt, e = .returned (.tuple #[.pointer (some ⟨gt, 0, none⟩), .int .i64 0]) ∧ TSt w' L 0 g gt mq6 ⟨0, 1, ⟨1, [], [[97]]⟩⟩) ∧ Below L w7 w') := by
    show Calls _ _ _ _ _
    refine hO.mono ?_
    rintro e w' ⟨⟨gt, rfl, h | h⟩, hb⟩
    · exact ⟨⟨gt, rfl, h.2.t⟩, hb⟩
    · exact absurd h.1 (by decide)
  clear hO hb7 D7
  go_wp2_with fail
  refine HO.out.mono ?_
  rintro e w8 ⟨⟨gu, rfl, T8⟩, hb8⟩
  have HB8 : Hid (Below L w w8) := HB7.out.trans hb8
  have HT8 : Hid (TSt w8 L 0 g gu mq6 ⟨0, 1, ⟨1, [], [[97]]⟩⟩) := T8
  have hR : Calls Try.prog 31 #[.pointer (some ⟨gu, 0, none⟩)] w8 fun e w' => (∃ p' c', e = .returned (.slice p' 1 c') ∧ OwV 9 w' w8.heap.size p' 1 c' (strs [[97]])) ∧ Below w8.heap.size w8 w' := by
    obtain ⟨own, d, pb, nb, cb, pr, cr, vs, hD, hB, hgt⟩ := T8
    exact records_any w8 gu g pr 1 cr vs [[97]] (hB.blk.cell 0) (hB.blk.cell 5) hB.rcs hB.sls rfl (by decide) (by decide)
  clear hb8 T8 HO
  go_wp2_with fail
  refine hR.mono ?_
  rintro e w9 ⟨⟨p9, c9, rfl, hO9⟩, hb9⟩
  clear hR
  have hE := eqStr_any p9 (some ⟨w9.heap.size, 0, none⟩) 1 c9 1 1 [⟨#[97]⟩] [⟨#[97]⟩] (w9.alloc (.cells #[.string ⟨#[97]⟩] 9)) ((hO9.rd).below (below_alloc w9 _)) (rdv_one w9 _) (by decide) (by decide)
  have hbA := below_alloc w9 (.cells #[.string ⟨#[97]⟩] 9)
  have HT9 : Hid (TSt (w9.alloc (.cells #[.string ⟨#[97]⟩] 9)) L 0 g gu mq6 ⟨0, 1, ⟨1, [], [[97]]⟩⟩) := (HT8.out.below hb9).below hbA
  have hLe : L ≤ w8.heap.size := Nat.le_trans (by rw [HL.out]; exact Nat.le_refl _) HB8.out.size
  have HB9 : Hid (Below L w (w9.alloc (.cells #[.string ⟨#[97]⟩] 9))) := HB8.out.trans ((hb9.mono hLe).trans (hbA.mono (Nat.le_trans hLe hb9.size)))
  rw [sameT_yes rfl] at hE
  clear hO9 hb9 hbA hLe
  go_wp2_with fail
  refine hE.mono ?_
  rintro e w10 ⟨rfl, hb10⟩
  clear hE
  have hLe : L ≤ (w9.alloc (.cells #[.string ⟨#[97]⟩] 9)).heap.size := Nat.le_trans (by rw [HL.out]; exact Nat.le_refl _) HB9.out.size
  have hbA := below_alloc w10 (.cells #[.int .u8 120] 5 (1, 2))
  have HB11 : Hid (Below L w (w10.alloc (.cells #[.int .u8 120] 5 (1, 2)))) := HB9.out.trans ((hb10.mono hLe).trans (hbA.mono (Nat.le_trans hLe hb10.size)))
  have hS := Save_S (w10.alloc (.cells #[.int .u8 120] 5 (1, 2))) L 0 g gu mq6 _ (by decide) ((HT9.out.below hb10).below hbA) good6 (by decide) (by decide) _ 1 1 [120] (rd_byte w10 120) (By.cons (by decide) By.nil) (by decide) none 0 0 [] [] ⟨rfl, Nat.le_refl _, fun _ => rfl, fun h => absurd h (Nat.lt_irrefl _)⟩ (Sls.nil _) rfl (by decide) (fun _ h => absurd h (Nat.not_lt_zero _)) (by decide +kernel)
  clear hb10 hLe hbA
  go_wp2_with fail
  refine hS.mono ?_
  rintro e w12 ⟨rfl, T12, hb12⟩
  clear hS
  have HB12 : Hid (Below L w w12) := HB11.out.trans hb12
  have HK : Hid (∃ pb cb pr cr, w12.cell? ⟨gu, 0, none⟩ = some (.pointer (some ⟨g, 0, none⟩)) ∧ w12.cell? ⟨gu, 4, none⟩ = some (.slice pb 1 cb) ∧ Rd .u8 w12 pb 1 cb [120] ∧ w12.cell? ⟨gu, 5, none⟩ = some (.slice pr 0 cr)) := by
    obtain ⟨own, d, pb, nb, cb, pr, cr, vs, Bv, hD, hB, hgt, hO, hBv⟩ := T12
    obtain rfl : 1 = nb := hB.bas.len
    exact ⟨pb, cb, pr, cr, hB.blk.cell 0, hB.blk.cell 4, hB.bas, hB.blk.cell 5⟩
  clear hb12 T12
  obtain ⟨pb, cb, pr, cr, c0, c4, hbs, c5⟩ := HK.out
  have hBs := TBase_ok w12 gu g pb 1 cb [120] c0 c4 hbs (by decide)
  have HC : Hid (w12.cell? ⟨gu, 0, none⟩ = some (.pointer (some ⟨g, 0, none⟩)) ∧ w12.cell? ⟨gu, 5, none⟩ = some (.slice pr 0 cr)) := ⟨c0, c5⟩
  clear HK c0 c4 hbs c5
  go_wp2_with fail
  refine hBs.mono ?_
  rintro e w13 ⟨⟨p13, c13, rfl, hO13⟩, hb13⟩
  clear hBs
  have hst := x_str p13 c13 w13 hO13.rd
  have hL := TLen_ok w13 gu g pr 0 cr (cell_below hb13 HC.out.1) (cell_below hb13 HC.out.2)
  have hLe : L ≤ w12.heap.size := Nat.le_trans (by rw [HL.out]; exact Nat.le_refl _) HB12.out.size
  have HB13 : Hid (Below L w w13) := HB12.out.trans (hb13.mono hLe)
  have HL13 : Hid (L ≤ w13.heap.size) := Nat.le_trans hLe hb13.size
  clear hb13 hO13 hLe
  go_wp2_with fail
  refine hL.mono ?_
  rintro e w14 ⟨rfl, hb14⟩
  clear hL hst
  have HB14 : Hid (Below L w w14) := HB13.out.trans (hb14.mono HL13.out)
  clear hb14
  go_wp2_with fail
  go_ret
  exact ⟨rfl, HB14.out⟩

end Go.Proofs.Ytpjhadaiodnnaaa.M
