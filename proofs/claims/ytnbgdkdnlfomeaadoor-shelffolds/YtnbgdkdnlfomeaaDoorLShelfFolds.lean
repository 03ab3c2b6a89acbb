/-
  Own text: the walk of the law ShelfFolds.
-/
import Derived.Test.YtnbgdkdnlfomeaaDoorBXt
namespace Go.Proofs.YtnbgdkdnlfomeaaDoor.M
open Go.ChangeShapes Go.WideShapes Go.ChangeAt Go.RowKit Go.ChangeMaps Go.MapKept Go.Maps Go.Shelf Go.Proofs
set_option linter.unusedSimpArgs false

/-- A table was told; two were. -/
def TB1 (w : World) (v : Value) (m : Sm) (W : World) : Prop := Bl w W ∧ TabR W v m
def TB2 (w : World) (v : Value) (m : Sm) (v2 : Value) (m2 : Sm) (W : World) : Prop := Bl w W ∧ TabR W v m ∧ TabR W v2 m2
theorem TB1.stays (w : World) (v : Value) (m : Sm) : Stays (TB1 w v m) := fun _ _ h hb => ⟨Bl.stays w _ _ h.1 hb, h.2.below hb⟩
theorem TB2.stays (w : World) (v : Value) (m : Sm) (v2 : Value) (m2 : Sm) : Stays (TB2 w v m v2 m2) := fun _ _ h hb => ⟨Bl.stays w _ _ h.1 hb, h.2.1.below hb, h.2.2.below hb⟩

set_option maxRecDepth 20000 in
set_option maxHeartbeats 4000000 in
theorem walk_ShelfFolds (w : World) (hT : Tabs w) (ix ep : Int) (cp : Option Addr) (cn cc : Nat) (C : List Ce) (dp : Option Addr) (dn dc : Nat) (D : List Dn) (hC : RdG celS w cp cn cc C) (hD : RdG donS w dp dn dc D) (hck : ∀ c ∈ C, Ce.fit c) (hcn : cn ≤ 9223372036854775807) (hdn : dn ≤ 9223372036854775807)
    (p : Option Addr) (n c : Nat) (ds : List Dv) (hr : RdG dooS w p n c ds) (hds : ∀ d ∈ ds, okD d) (hnn : n ≤ 9223372036854775807) (nn : Int) (q : Nat) (hq : q < 18446744073709551616) :
    Calls Tryd.prog 4 #[.agg #[.int .i64 ix, .int .i64 ep, .slice cp cn cc, .slice dp dn dc], .slice p n c, .int .i64 nn, .agg #[.int .u8 (bt (q) 0), .int .u8 (bt (q) 1), .int .u8 (bt (q) 2), .int .u8 (bt (q) 3), .int .u8 (bt (q) 4), .int .u8 (bt (q) 5), .int .u8 (bt (q) 6), .int .u8 (bt (q) 7)]] w fun e w' => e = .returned (.bool true) ∧ Below w.heap.size w w' := by
  have h0 := below_alloc' w (.cells #[.int .i64 ix, .int .i64 ep, .slice cp cn cc, .slice dp dn dc] 25)
  have hA0 := At.new 25 w #[.int .i64 ix, .int .i64 ep, .slice cp cn cc, .slice dp dn dc]
  have s1 : (w.alloc (.cells #[.int .i64 ix, .int .i64 ep, .slice cp cn cc, .slice dp dn dc] 25)).heap.size = w.heap.size + 1 := by simp
  generalize hW1 : (w.alloc (.cells #[.int .i64 ix, .int .i64 ep, .slice cp cn cc, .slice dp dn dc] 25)) = W1 at *
  have h1 := below_alloc' W1 (.cells #[.int .u8 (bt (q) 0), .int .u8 (bt (q) 1), .int .u8 (bt (q) 2), .int .u8 (bt (q) 3), .int .u8 (bt (q) 4), .int .u8 (bt (q) 5), .int .u8 (bt (q) 6), .int .u8 (bt (q) 7)] 28)
  have hK := At.new 28 W1 #[.int .u8 (bt (q) 0), .int .u8 (bt (q) 1), .int .u8 (bt (q) 2), .int .u8 (bt (q) 3), .int .u8 (bt (q) 4), .int .u8 (bt (q) 5), .int .u8 (bt (q) 6), .int .u8 (bt (q) 7)]
  rw [s1] at hK
  have hA := hA0.below h1
  generalize hW2 : W1.alloc (.cells #[.int .u8 (bt (q) 0), .int .u8 (bt (q) 1), .int .u8 (bt (q) 2), .int .u8 (bt (q) 3), .int .u8 (bt (q) 4), .int .u8 (bt (q) 5), .int .u8 (bt (q) 6), .int .u8 (bt (q) 7)] 28) = W2 at *
  have HB := h0.trans (h1.mono h0.size)
  clear h0 h1 hA0
  have hsm := small_any ix ep cp cn cc C dp dn dc W2 (hC.below HB) hcn hdn
  go_enter Tryd.func4, Tryd.ntmps4
  go_wp2_with (refine wpList_load_row rfl 25 _ rfl w.heap.size rfl _ _ _ _ hA Tryd.underlying25 rfl infoTb ?_)
  refine hsm.mono ?_
  rintro e w3 ⟨⟨bb, rfl, hbb⟩, hb⟩
  clear hsm hW2
  replace HB := HB.trans (hb.mono HB.size)
  replace hA := hA.below hb
  replace hK := hK.below hb
  clear hb
  cases bb with
  | false =>
    as_aux_lemma =>
      have hW := awake_any _ (hT.up HB)
      go_wp2_with fail
      refine hW.mono ?_
      rintro e w9 ⟨rfl, hb9⟩
      go_wp2_with fail
      go_ret
      exact ⟨rfl, HB.trans (hb9.mono HB.size)⟩
  | true =>
    as_aux_lemma =>
      obtain ⟨hcn1, hdn1⟩ := hbb rfl
      clear hbb
      have hsh := shortL_any (hr.below HB) hnn
      go_wp2_with fail
      refine hsh.mono ?_
      rintro e w4 ⟨⟨bb, rfl, hbb⟩, hb⟩
      clear hsh
      replace HB := HB.trans (hb.mono HB.size)
      replace hA := hA.below hb
      replace hK := hK.below hb
      clear hb
      cases bb with
      | false =>
        have hW := awake_any _ (hT.up HB)
        go_wp2_with fail
        refine hW.mono ?_
        rintro e w9 ⟨rfl, hb9⟩
        go_wp2_with fail
        go_ret
        exact ⟨rfl, HB.trans (hb9.mono HB.size)⟩
      | true =>
        as_aux_lemma =>
          have hn1 := hbb rfl
          clear hbb
          have hch := check_any ix ep cp cn cc dp dn dc C D w4 (hC.below HB) (hD.below HB) (by omega) hck (hT.up HB)
          have hcz : (chkE ix ep C D = 0) ∨ ¬ (chkE ix ep C D = 0) := Classical.em _
          go_wp2_with (refine wpList_load_rowG rfl 25 _ rfl w.heap.size rfl _ _ _ _ hA Tryd.underlying25 rfl infoTb ?_)
          refine hch.mono ?_
          rintro e w5 ⟨rfl, hb⟩
          clear hch
          replace HB := HB.trans (hb.mono HB.size)
          replace hA := hA.below hb
          replace hK := hK.below hb
          clear hb
          rcases hcz with hcz | hcz
          · as_aux_lemma =>
              have hmd := madeX (fun _ => 0) 1 ix ep cp cn cc dp dn dc C D w5 (hC.below HB) (hD.below HB) (by omega) hck (hT.up HB) (by omega) hcz p n c ds (hr.below HB) hds hnn
              have hkn := (frS_gd hcz).runs ds
              have hkl5 : w.heap.size + 1 < w5.heap.size := At.lt hK
              rw [hcz]
              generalize (frS ix ep C D).runs ds = s at *
              go_wp2_with (refine wpList_load_row rfl 25 _ rfl w.heap.size rfl _ _ _ _ hA Tryd.underlying25 rfl infoTb ?_)
              refine hmd.mono ?_
              rintro e w6 ⟨g, rfl, hb, hst, hS⟩
              clear hmd hcz
              have hM := (MO.none w w5 HB).step (i := 1) (by decide) hst
              replace HB := HB.trans (hb.mono HB.size)
              replace hA := hA.below hb
              replace hK := hK.below hb
              clear hb hst
              have hkz : mkO (fun _ => 0) w5 w6 1 (w.heap.size + 1) = 0 := by rw [mkO_old hkl5]
              clear hkl5
              generalize (mkO (fun _ => 0) w5 w6 1) = o1 at *
              clear hA hC hD hck hcn hdn hcn1 hdn1 hn1 hr hds hnn
              have hcl := cloneX o1 (j := 2) hS
              have hkl : w.heap.size + 1 < w6.heap.size := At.lt hK
              go_wp2_with fail
              refine hcl.mono ?_
              rintro e w7 ⟨g2, rfl, hb, hst, hC2⟩
              clear hcl HB
              replace hS := hS.other hst (by decide)
              replace hK := hK.below hb
              replace hM := hM.step (i := 2) (by decide) hst
              have hkz2 : mkO o1 w6 w7 2 (w.heap.size + 1) = 0 := by rw [mkO_old hkl]; exact hkz
              clear hst hb hkz hkl
              generalize (mkO o1 w6 w7 2) = o2 at *
              have hi := hS.inv
              have hlast : s.last = s.low.ix + (s.tail.length : Nat) := rfl
              have hfew := hi.few
              obtain ⟨cq, hcq⟩ : ∃ cq : Nat, s.com = s.low.ix + cq := ⟨(s.com - s.low.ix).toNat, by have := hi.lo; omega⟩
              have hcl : cq ≤ s.tail.length := by have := hi.hi; omega
              obtain ⟨r, hr1, hr2⟩ := uat nn cq (by omega)
              have hix : 0 ≤ s.low.ix ∧ s.low.ix + s.tail.length ≤ 1099511627776 := ⟨hi.ix0, hi.ix1⟩
              have hcqq : Hid (s.com = s.low.ix + cq) := hcq
              have hW := lowX hS
              have hW2 := fun V (h : SX o2 1 V g s) => commitX h
              rw [hcq] at hW2
              clear hlast hcq
              go_wp2_with fail
              refine hW.mono ?_
              rintro e w8 ⟨rfl, hb⟩
              clear hW
              replace hM := hM.below hb
              replace hS := hS.below hb
              replace hC2 := hC2.below hb
              replace hK := hK.below hb
              clear hb
              have hW := hW2 _ hS
              go_wp2_with fail
              refine hW.mono ?_
              rintro e w9 ⟨rfl, hb⟩
              clear hW hW2
              replace hM := hM.below hb
              replace hS := hS.below hb
              replace hC2 := hC2.below hb
              replace hK := hK.below hb
              clear hb
              have hW := lowX hS
              have hsub : s.low.ix + (cq : Int) - s.low.ix = cq := by omega
              have hne : ((cq : Int) + 1 == 0) = false := by simp; omega
              go_wp2_with fail
              refine hW.mono ?_
              rintro e w10 ⟨rfl, hb⟩
              clear hW
              replace hM := hM.below hb
              replace hS := hS.below hb
              replace hC2 := hC2.below hb
              replace hK := hK.below hb
              clear hb
              have hW := foldX hS (s.low.ix + r)
              have hfo := fold_ok (s := s) (k := r) (by have := hcqq.out; omega)
              rw [hfo.1, hfo.2] at hW
              go_wp2_with fail
              refine hW.mono ?_
              rintro e w11 ⟨rfl, hst, hS1⟩
              clear hW hfo hne hr2 hsub
              replace hC2 := hC2.other hst (by decide)
              replace hK := hK.other hst hkz2 (by decide)
              replace hM := hM.step (i := 1) (by decide) hst
              clear hst hkz2 hS
              generalize (mkO o2 w10 w11 1) = o3 at *
              have hrl : r ≤ s.tail.length := by omega
              have hW := lowX hS1
              have hlx : (⟨s.low.adds (s.tail.take r), s.tail.drop r, s.com⟩ : Sh).low.ix = s.low.ix + r := adds_ix hi hrl
              rw [hlx] at hW
              have hS := hS1
              clear hS1
              go_wp2_with fail
              refine hW.mono ?_
              rintro e w12 ⟨rfl, hb⟩
              clear hW
              replace hM := hM.below hb
              replace hS := hS.below hb
              replace hC2 := hC2.below hb
              replace hK := hK.below hb
              clear hb
              have hl1 : (⟨s.low.adds (s.tail.take r), s.tail.drop r, s.com⟩ : Sh).last = s.last := by
                show (s.low.adds (s.tail.take r)).ix + ((s.tail.drop r).length : Nat) = s.low.ix + (s.tail.length : Nat)
                rw [adds_ix hi hrl, List.length_drop]
                omega
              have he1 : endS (⟨s.low.adds (s.tail.take r), s.tail.drop r, s.com⟩ : Sh).low (⟨s.low.adds (s.tail.take r), s.tail.drop r, s.com⟩ : Sh).tail = endS s.low s.tail := by
                show endS (s.low.adds (s.tail.take r)) (s.tail.drop r) = _
                rw [endS_app, List.take_append_drop]
              have hwh : (⟨s.low.adds (s.tail.take r), s.tail.drop r, s.com⟩ : Sh).low.adds ((⟨s.low.adds (s.tail.take r), s.tail.drop r, s.com⟩ : Sh).tail.take ((⟨s.low.adds (s.tail.take r), s.tail.drop r, s.com⟩ : Sh).com - (⟨s.low.adds (s.tail.take r), s.tail.drop r, s.com⟩ : Sh).low.ix).toNat) = s.low.adds (s.tail.take (s.com - s.low.ix).toNat) := by
                show (s.low.adds (s.tail.take r)).adds ((s.tail.drop r).take (s.com - (s.low.adds (s.tail.take r)).ix).toNat) = _
                rw [adds_ix hi hrl, ← adds_app, hcqq.out, show (s.low.ix + (cq : Int) - (s.low.ix + (r : Nat))).toNat = cq - r by omega, ← List.take_add, show r + (cq - r) = cq by omega, show (s.low.ix + (cq : Int) - s.low.ix).toNat = cq by omega]
              have htp : (⟨s.low.adds (s.tail.take r), s.tail.drop r, s.com⟩ : Sh).low.adds (⟨s.low.adds (s.tail.take r), s.tail.drop r, s.com⟩ : Sh).tail = s.low.adds s.tail := by
                show (s.low.adds (s.tail.take r)).adds (s.tail.drop r) = _
                rw [← adds_app, List.take_append_drop]
              have hkn1 : (⟨s.low.adds (s.tail.take r), s.tail.drop r, s.com⟩ : Sh).kn := by
                show ((⟨s.low.adds (s.tail.take r), s.tail.drop r, s.com⟩ : Sh).low.adds (⟨s.low.adds (s.tail.take r), s.tail.drop r, s.com⟩ : Sh).tail).cs.length ≤ 12
                rw [htp]
                exact hkn.kn
              have hW := lastX hS
              rw [hl1, he1] at hW
              go_wp2_with fail
              refine hW.mono ?_
              rintro e w13 ⟨rfl, hb⟩
              clear hW
              replace hM := hM.below hb
              replace hS := hS.below hb
              replace hC2 := hC2.below hb
              replace hK := hK.below hb
              clear hb
              have hW := lastX hC2
              go_wp2_with fail
              refine hW.mono ?_
              rintro e w14 ⟨rfl, hb⟩
              clear hW
              replace hM := hM.below hb
              replace hS := hS.below hb
              replace hC2 := hC2.below hb
              replace hK := hK.below hb
              clear hb
              have hW := behX hS (x := s.low.ix + r) hlx.symm
              have hle : (⟨s.low.adds (s.tail.take r), s.tail.drop r, s.com⟩ : Sh).tail.length = s.tail.length - r := List.length_drop
              rw [hle] at hW
              go_wp2_with fail
              refine hW.mono ?_
              rintro e w15 ⟨p1, c1, rfl, hr1', hb⟩
              clear hW
              replace hM := hM.below hb
              replace hS := hS.below hb
              replace hC2 := hC2.below hb
              replace hK := hK.below hb
              clear hb
              have hW := behY hC2 hrl (x := s.low.ix + r) rfl
              go_wp2_with fail
              refine hW.mono ?_
              rintro e w16 ⟨p2, c2, rfl, hr2', hb⟩
              clear hW
              replace hM := hM.below hb
              replace hS := hS.below hb
              replace hC2 := hC2.below hb
              replace hK := hK.below hb
              replace hr1 := hr1'.below hb
              have hr2 := hr2'.rd
              clear hb hr1' hr2' hlx hle
              have hW9 : ∀ (j : Nat) (hj : r + j < s.tail.length) V, SX o3 1 V g (⟨s.low.adds (s.tail.take r), s.tail.drop r, s.com⟩ : Sh) → SX o3 2 V g2 s → ∃ kv : Int × Bool,
                  Calls Tryd.prog 20 #[.pointer (some ⟨g, 0, none⟩), .agg #[.int .i64 (s.tail.getD (r + j) .z0).c, .int .i64 (s.tail.getD (r + j) .z0).q]] V (fun e w' => e = .returned (.tuple #[.int .i64 kv.1, .bool kv.2]) ∧ Below V.heap.size V w') ∧
                  (∀ V, SX o3 2 V g2 s → Calls Tryd.prog 20 #[.pointer (some ⟨g2, 0, none⟩), .agg #[.int .i64 (s.tail.getD (r + j) .z0).c, .int .i64 (s.tail.getD (r + j) .z0).q]] V (fun e w' => e = .returned (.tuple #[.int .i64 kv.1, .bool kv.2]) ∧ Below V.heap.size V w')) := fun j hj V h1 h2 => by
                refine ⟨s.knw (s.tail.getD (r + j) .z0).c (s.tail.getD (r + j) .z0).q, ?_, fun V h => knownX h _ _⟩
                have h3 := knownX h1 (s.tail.getD (r + j) .z0).c (s.tail.getD (r + j) .z0).q
                rw [show (⟨s.low.adds (s.tail.take r), s.tail.drop r, s.com⟩ : Sh).knw (s.tail.getD (r + j) .z0).c (s.tail.getD (r + j) .z0).q = s.knw (s.tail.getD (r + j) .z0).c (s.tail.getD (r + j) .z0).q from by
                  unfold Sh.knw
                  rw [knw_fold hi hkn.ok hj _ (s.low.d (s.tail.getD (r + j) .z0).c.toNat)]] at h3
                exact h3
              have hHW : Hid (∀ (j : Nat), r + j < s.tail.length → True) := fun _ _ => trivial
              go_wp2_with fail
              have hgl : s.tail.length - r ≤ 24 := by omega
              have HGL : Hid (∀ j, j < s.tail.length - r → r + j < s.tail.length) := fun j h => by omega
              have HRL : Hid (r ≤ s.tail.length) := hrl
              clear hHW
              go_loopw [94] (fun i wr => ∃ (j : Nat), j ≤ s.tail.length - r ∧ i = .int .i64 j ∧ Below w16.heap.size w16 wr) (fun i _ => (s.tail.length - r) - (intOf i).toNat)
              case atStart => exact ⟨0, Nat.zero_le _, rfl, Below.refl _ _⟩
              case round =>
                obtain ⟨j, hj, rfl, hb⟩ := hrel
                by_cases hjn : j < s.tail.length - r
                · as_aux_lemma =>
                    have hji : (j : Int) < ((s.tail.length - r : Nat) : Int) := by omega
                    obtain ⟨bb, of, rfl, _⟩ := hr1.at (by omega)
                    have hrk := hr1.rangeB hb hjn
                    have hrj := HGL.out j hjn
                    rw [show (⟨s.low.adds (s.tail.take r), s.tail.drop r, s.com⟩ : Sh).tail.getD j recS.z = s.tail.getD (r + j) .z0 from by show (s.tail.drop r).getD j recS.z = _; rw [List.getD_eq_getElem?_getD, List.getD_eq_getElem?_getD, List.getElem?_drop]; rfl] at hrk
                    have hX0 := At.new 64 wr #[.int .i64 0, .int .i64 0, .int .u8 0, .int .u8 0, .int .u8 0, .int .u8 0, .int .u8 0, .int .u8 0, .int .u8 0, .int .u8 0, .int .i64 0, .string ⟨#[]⟩, .int .i64 0, .int .i64 0]
                    have hba : Below wr.heap.size wr ((wr.alloc (.cells #[.int .i64 0, .int .i64 0, .int .u8 0, .int .u8 0, .int .u8 0, .int .u8 0, .int .u8 0, .int .u8 0, .int .u8 0, .int .u8 0, .int .i64 0, .string ⟨#[]⟩, .int .i64 0, .int .i64 0] 64)).setRow wr.heap.size #[.int .i64 (s.tail.getD (r + j) .z0).ix, .int .i64 (s.tail.getD (r + j) .z0).ep, .int .u8 (bt (s.tail.getD (r + j) .z0).k 0), .int .u8 (bt (s.tail.getD (r + j) .z0).k 1), .int .u8 (bt (s.tail.getD (r + j) .z0).k 2), .int .u8 (bt (s.tail.getD (r + j) .z0).k 3), .int .u8 (bt (s.tail.getD (r + j) .z0).k 4), .int .u8 (bt (s.tail.getD (r + j) .z0).k 5), .int .u8 (bt (s.tail.getD (r + j) .z0).k 6), .int .u8 (bt (s.tail.getD (r + j) .z0).k 7), .int .i64 (s.tail.getD (r + j) .z0).v, .string (s.tail.getD (r + j) .z0).s, .int .i64 (s.tail.getD (r + j) .z0).c, .int .i64 (s.tail.getD (r + j) .z0).q]) := (below_alloc' wr (.cells #[.int .i64 0, .int .i64 0, .int .u8 0, .int .u8 0, .int .u8 0, .int .u8 0, .int .u8 0, .int .u8 0, .int .u8 0, .int .u8 0, .int .i64 0, .string ⟨#[]⟩, .int .i64 0, .int .i64 0] 64)).trans (below_setRow _ _ _ (Nat.le_refl _))
                    have hX := hX0.row #[.int .i64 (s.tail.getD (r + j) .z0).ix, .int .i64 (s.tail.getD (r + j) .z0).ep, .int .u8 (bt (s.tail.getD (r + j) .z0).k 0), .int .u8 (bt (s.tail.getD (r + j) .z0).k 1), .int .u8 (bt (s.tail.getD (r + j) .z0).k 2), .int .u8 (bt (s.tail.getD (r + j) .z0).k 3), .int .u8 (bt (s.tail.getD (r + j) .z0).k 4), .int .u8 (bt (s.tail.getD (r + j) .z0).k 5), .int .u8 (bt (s.tail.getD (r + j) .z0).k 6), .int .u8 (bt (s.tail.getD (r + j) .z0).k 7), .int .i64 (s.tail.getD (r + j) .z0).v, .string (s.tail.getD (r + j) .z0).s, .int .i64 (s.tail.getD (r + j) .z0).c, .int .i64 (s.tail.getD (r + j) .z0).q]
                    have hbx := hb.trans (hba.mono hb.size)
                    obtain ⟨kv, hk1, hk2⟩ := hW9 j hrj _ (hS.below hbx) (hC2.below hbx)
                    clear hW9 hba
                    generalize s.tail.getD (r + j) .z0 = x at *
                    obtain ⟨xi, xe, xk, xv, xs, xc, xq⟩ := x
                    obtain ⟨kvv, kvb⟩ := kv
                    dsimp only at hrk hk1 hk2 hX hbx
                    have hrk2 : wr.rangeAt bb (of + j * 14) [.int .i64 (Rc.mk xi xe xk xv xs xc xq).ix, .int .i64 (Rc.mk xi xe xk xv xs xc xq).ep, .int .u8 (bt (Rc.mk xi xe xk xv xs xc xq).k 0), .int .u8 (bt (Rc.mk xi xe xk xv xs xc xq).k 1), .int .u8 (bt (Rc.mk xi xe xk xv xs xc xq).k 2), .int .u8 (bt (Rc.mk xi xe xk xv xs xc xq).k 3), .int .u8 (bt (Rc.mk xi xe xk xv xs xc xq).k 4), .int .u8 (bt (Rc.mk xi xe xk xv xs xc xq).k 5), .int .u8 (bt (Rc.mk xi xe xk xv xs xc xq).k 6), .int .u8 (bt (Rc.mk xi xe xk xv xs xc xq).k 7), .int .i64 (Rc.mk xi xe xk xv xs xc xq).v, .string (Rc.mk xi xe xk xv xs xc xq).s, .int .i64 (Rc.mk xi xe xk xv xs xc xq).c, .int .i64 (Rc.mk xi xe xk xv xs xc xq).q] := hrk
                    obtain ⟨y0, y1, y2, y3, y4, y5, y6, y7, y8, y9, y10, y11, y12, y13⟩ := rec_box (x := Rc.mk xi xe xk xv xs xc xq) hX
                    dsimp only at y12 y13
                    clear hrk y0 y1 y2 y3 y4 y5 y6 y7 y8 y9 y10 y11
                    go_wp2_with (first | refine wpList_load_mid rfl 64 _ rfl bb (of + j * 14) rfl _ _ hrk2 Tryd.underlying64 rfl infoRc ?_ | refine wpList_store_row rfl 64 _ _ rfl wr.heap.size #[.int .i64 (Rc.mk xi xe xk xv xs xc xq).ix, .int .i64 (Rc.mk xi xe xk xv xs xc xq).ep, .int .u8 (bt (Rc.mk xi xe xk xv xs xc xq).k 0), .int .u8 (bt (Rc.mk xi xe xk xv xs xc xq).k 1), .int .u8 (bt (Rc.mk xi xe xk xv xs xc xq).k 2), .int .u8 (bt (Rc.mk xi xe xk xv xs xc xq).k 3), .int .u8 (bt (Rc.mk xi xe xk xv xs xc xq).k 4), .int .u8 (bt (Rc.mk xi xe xk xv xs xc xq).k 5), .int .u8 (bt (Rc.mk xi xe xk xv xs xc xq).k 6), .int .u8 (bt (Rc.mk xi xe xk xv xs xc xq).k 7), .int .i64 (Rc.mk xi xe xk xv xs xc xq).v, .string (Rc.mk xi xe xk xv xs xc xq).s, .int .i64 (Rc.mk xi xe xk xv xs xc xq).c, .int .i64 (Rc.mk xi xe xk xv xs xc xq).q] rfl rfl _ _ hX0 infoRc rfl (by simp [Value.oneCell']) ?_)
                    generalize ((wr.alloc (.cells #[.int .i64 0, .int .i64 0, .int .u8 0, .int .u8 0, .int .u8 0, .int .u8 0, .int .u8 0, .int .u8 0, .int .u8 0, .int .u8 0, .int .i64 0, .string ⟨#[]⟩, .int .i64 0, .int .i64 0] 64)).setRow wr.heap.size #[.int .i64 (Rc.mk xi xe xk xv xs xc xq).ix, .int .i64 (Rc.mk xi xe xk xv xs xc xq).ep, .int .u8 (bt (Rc.mk xi xe xk xv xs xc xq).k 0), .int .u8 (bt (Rc.mk xi xe xk xv xs xc xq).k 1), .int .u8 (bt (Rc.mk xi xe xk xv xs xc xq).k 2), .int .u8 (bt (Rc.mk xi xe xk xv xs xc xq).k 3), .int .u8 (bt (Rc.mk xi xe xk xv xs xc xq).k 4), .int .u8 (bt (Rc.mk xi xe xk xv xs xc xq).k 5), .int .u8 (bt (Rc.mk xi xe xk xv xs xc xq).k 6), .int .u8 (bt (Rc.mk xi xe xk xv xs xc xq).k 7), .int .i64 (Rc.mk xi xe xk xv xs xc xq).v, .string (Rc.mk xi xe xk xv xs xc xq).s, .int .i64 (Rc.mk xi xe xk xv xs xc xq).c, .int .i64 (Rc.mk xi xe xk xv xs xc xq).q]) = wx at *
                    refine hk1.mono ?_
                    rintro e w17 ⟨rfl, hb2⟩
                    clear hk1 hX0 hrk2 y12 y13
                    have z := hX.below hb2
                    have z12 := At.cell z 12
                    have z13 := At.cell z 13
                    simp only [List.getElem?_toArray, List.getElem?_cons_zero, List.getElem?_cons_succ] at z12 z13
                    replace hb := hbx.trans (hb2.mono hbx.size)
                    have hk3 := hk2 _ (hC2.below hb)
                    clear hk2 hb2 hX hbx z
                    generalize wr.heap.size = gx at *
                    go_wp2_with fail
                    refine hk3.mono ?_
                    rintro e w18 ⟨rfl, hb2⟩
                    clear hk3 z12 z13
                    replace hb := hb.trans (hb2.mono hb.size)
                    clear hb2
                    go_wp2_with fail
                    exact ⟨⟨j + 1, by omega, by go_num, hb⟩, by simp [intOf]; omega⟩
                · as_aux_lemma =>
                    have hji : ¬ (j : Int) < ((s.tail.length - r : Nat) : Int) := by omega
                    obtain rfl : j = s.tail.length - r := by omega
                    replace hM := hM.below hb
                    replace hS := hS.below hb
                    replace hC2 := hC2.below hb
                    replace hK := hK.below hb
                    replace hr1 := hr1.below hb
                    replace hr2 := hr2.below hb
                    clear hb hW9
                    have hCm := fun W (h : Bl wr W) => commitX (hS.below h)
                    have hD1 := fun W (h : Bl wr W) => dirtyX (hS.below h)
                    rw [show (⟨s.low.adds (s.tail.take r), s.tail.drop r, s.com⟩ : Sh).last - (⟨s.low.adds (s.tail.take r), s.tail.drop r, s.com⟩ : Sh).com = s.last - s.com from by rw [hl1]] at hD1
                    have hW1 := fun W (h : Below wr.heap.size wr W) => wholeX (hS.below h) hkn1
                    rw [hwh] at hW1
                    have hc1 := fun W (h : Bl wr W) => cleanX (hS.below h) q hq
                    rw [hwh] at hc1
                    have hc2 := fun W (h : Bl wr W) => cleanX (hC2.below h) q hq
                    have ht1 := fun W (h : Bl wr W) => topX (hS.below h) q hq
                    rw [htp] at ht1
                    have ht2 := fun W (h : Bl wr W) => topX (hC2.below h) q hq
                    have hec : ∀ W, (binOp .eql 53 (.agg #[.int .u8 (bt ((lookC (s.low.adds (s.tail.take (s.com - s.low.ix).toNat)).cs q).getD .z0).k 0), .int .u8 (bt ((lookC (s.low.adds (s.tail.take (s.com - s.low.ix).toNat)).cs q).getD .z0).k 1), .int .u8 (bt ((lookC (s.low.adds (s.tail.take (s.com - s.low.ix).toNat)).cs q).getD .z0).k 2), .int .u8 (bt ((lookC (s.low.adds (s.tail.take (s.com - s.low.ix).toNat)).cs q).getD .z0).k 3), .int .u8 (bt ((lookC (s.low.adds (s.tail.take (s.com - s.low.ix).toNat)).cs q).getD .z0).k 4), .int .u8 (bt ((lookC (s.low.adds (s.tail.take (s.com - s.low.ix).toNat)).cs q).getD .z0).k 5), .int .u8 (bt ((lookC (s.low.adds (s.tail.take (s.com - s.low.ix).toNat)).cs q).getD .z0).k 6), .int .u8 (bt ((lookC (s.low.adds (s.tail.take (s.com - s.low.ix).toNat)).cs q).getD .z0).k 7), .int .i64 ((lookC (s.low.adds (s.tail.take (s.com - s.low.ix).toNat)).cs q).getD .z0).v, .string ((lookC (s.low.adds (s.tail.take (s.com - s.low.ix).toNat)).cs q).getD .z0).s]) (.agg #[.int .u8 (bt ((lookC (s.low.adds (s.tail.take (s.com - s.low.ix).toNat)).cs q).getD .z0).k 0), .int .u8 (bt ((lookC (s.low.adds (s.tail.take (s.com - s.low.ix).toNat)).cs q).getD .z0).k 1), .int .u8 (bt ((lookC (s.low.adds (s.tail.take (s.com - s.low.ix).toNat)).cs q).getD .z0).k 2), .int .u8 (bt ((lookC (s.low.adds (s.tail.take (s.com - s.low.ix).toNat)).cs q).getD .z0).k 3), .int .u8 (bt ((lookC (s.low.adds (s.tail.take (s.com - s.low.ix).toNat)).cs q).getD .z0).k 4), .int .u8 (bt ((lookC (s.low.adds (s.tail.take (s.com - s.low.ix).toNat)).cs q).getD .z0).k 5), .int .u8 (bt ((lookC (s.low.adds (s.tail.take (s.com - s.low.ix).toNat)).cs q).getD .z0).k 6), .int .u8 (bt ((lookC (s.low.adds (s.tail.take (s.com - s.low.ix).toNat)).cs q).getD .z0).k 7), .int .i64 ((lookC (s.low.adds (s.tail.take (s.com - s.low.ix).toNat)).cs q).getD .z0).v, .string ((lookC (s.low.adds (s.tail.take (s.com - s.low.ix).toNat)).cs q).getD .z0).s])).run Tryd.prog W = .ok (.bool true) W := fun W => by
                      have h := eql_cel ((lookC (s.low.adds (s.tail.take (s.com - s.low.ix).toNat)).cs q).getD .z0) ((lookC (s.low.adds (s.tail.take (s.com - s.low.ix).toNat)).cs q).getD .z0) W
                      rw [eqCe_self] at h
                      exact h
                    have hgc : ∀ W, (eqGuard .eql 53 (.tmp 158) (.tmp 161) (.agg #[.int .u8 (bt ((lookC (s.low.adds (s.tail.take (s.com - s.low.ix).toNat)).cs q).getD .z0).k 0), .int .u8 (bt ((lookC (s.low.adds (s.tail.take (s.com - s.low.ix).toNat)).cs q).getD .z0).k 1), .int .u8 (bt ((lookC (s.low.adds (s.tail.take (s.com - s.low.ix).toNat)).cs q).getD .z0).k 2), .int .u8 (bt ((lookC (s.low.adds (s.tail.take (s.com - s.low.ix).toNat)).cs q).getD .z0).k 3), .int .u8 (bt ((lookC (s.low.adds (s.tail.take (s.com - s.low.ix).toNat)).cs q).getD .z0).k 4), .int .u8 (bt ((lookC (s.low.adds (s.tail.take (s.com - s.low.ix).toNat)).cs q).getD .z0).k 5), .int .u8 (bt ((lookC (s.low.adds (s.tail.take (s.com - s.low.ix).toNat)).cs q).getD .z0).k 6), .int .u8 (bt ((lookC (s.low.adds (s.tail.take (s.com - s.low.ix).toNat)).cs q).getD .z0).k 7), .int .i64 ((lookC (s.low.adds (s.tail.take (s.com - s.low.ix).toNat)).cs q).getD .z0).v, .string ((lookC (s.low.adds (s.tail.take (s.com - s.low.ix).toNat)).cs q).getD .z0).s]) (.agg #[.int .u8 (bt ((lookC (s.low.adds (s.tail.take (s.com - s.low.ix).toNat)).cs q).getD .z0).k 0), .int .u8 (bt ((lookC (s.low.adds (s.tail.take (s.com - s.low.ix).toNat)).cs q).getD .z0).k 1), .int .u8 (bt ((lookC (s.low.adds (s.tail.take (s.com - s.low.ix).toNat)).cs q).getD .z0).k 2), .int .u8 (bt ((lookC (s.low.adds (s.tail.take (s.com - s.low.ix).toNat)).cs q).getD .z0).k 3), .int .u8 (bt ((lookC (s.low.adds (s.tail.take (s.com - s.low.ix).toNat)).cs q).getD .z0).k 4), .int .u8 (bt ((lookC (s.low.adds (s.tail.take (s.com - s.low.ix).toNat)).cs q).getD .z0).k 5), .int .u8 (bt ((lookC (s.low.adds (s.tail.take (s.com - s.low.ix).toNat)).cs q).getD .z0).k 6), .int .u8 (bt ((lookC (s.low.adds (s.tail.take (s.com - s.low.ix).toNat)).cs q).getD .z0).k 7), .int .i64 ((lookC (s.low.adds (s.tail.take (s.com - s.low.ix).toNat)).cs q).getD .z0).v, .string ((lookC (s.low.adds (s.tail.take (s.com - s.low.ix).toNat)).cs q).getD .z0).s])).run Tryd.prog W = .ok () W := fun W => by go_simp
                    have het : ∀ W, (binOp .eql 53 (.agg #[.int .u8 (bt ((lookC (s.low.adds s.tail).cs q).getD .z0).k 0), .int .u8 (bt ((lookC (s.low.adds s.tail).cs q).getD .z0).k 1), .int .u8 (bt ((lookC (s.low.adds s.tail).cs q).getD .z0).k 2), .int .u8 (bt ((lookC (s.low.adds s.tail).cs q).getD .z0).k 3), .int .u8 (bt ((lookC (s.low.adds s.tail).cs q).getD .z0).k 4), .int .u8 (bt ((lookC (s.low.adds s.tail).cs q).getD .z0).k 5), .int .u8 (bt ((lookC (s.low.adds s.tail).cs q).getD .z0).k 6), .int .u8 (bt ((lookC (s.low.adds s.tail).cs q).getD .z0).k 7), .int .i64 ((lookC (s.low.adds s.tail).cs q).getD .z0).v, .string ((lookC (s.low.adds s.tail).cs q).getD .z0).s]) (.agg #[.int .u8 (bt ((lookC (s.low.adds s.tail).cs q).getD .z0).k 0), .int .u8 (bt ((lookC (s.low.adds s.tail).cs q).getD .z0).k 1), .int .u8 (bt ((lookC (s.low.adds s.tail).cs q).getD .z0).k 2), .int .u8 (bt ((lookC (s.low.adds s.tail).cs q).getD .z0).k 3), .int .u8 (bt ((lookC (s.low.adds s.tail).cs q).getD .z0).k 4), .int .u8 (bt ((lookC (s.low.adds s.tail).cs q).getD .z0).k 5), .int .u8 (bt ((lookC (s.low.adds s.tail).cs q).getD .z0).k 6), .int .u8 (bt ((lookC (s.low.adds s.tail).cs q).getD .z0).k 7), .int .i64 ((lookC (s.low.adds s.tail).cs q).getD .z0).v, .string ((lookC (s.low.adds s.tail).cs q).getD .z0).s])).run Tryd.prog W = .ok (.bool true) W := fun W => by
                      have h := eql_cel ((lookC (s.low.adds s.tail).cs q).getD .z0) ((lookC (s.low.adds s.tail).cs q).getD .z0) W
                      rw [eqCe_self] at h
                      exact h
                    have hgt : ∀ W, (eqGuard .eql 53 (.tmp 167) (.tmp 170) (.agg #[.int .u8 (bt ((lookC (s.low.adds s.tail).cs q).getD .z0).k 0), .int .u8 (bt ((lookC (s.low.adds s.tail).cs q).getD .z0).k 1), .int .u8 (bt ((lookC (s.low.adds s.tail).cs q).getD .z0).k 2), .int .u8 (bt ((lookC (s.low.adds s.tail).cs q).getD .z0).k 3), .int .u8 (bt ((lookC (s.low.adds s.tail).cs q).getD .z0).k 4), .int .u8 (bt ((lookC (s.low.adds s.tail).cs q).getD .z0).k 5), .int .u8 (bt ((lookC (s.low.adds s.tail).cs q).getD .z0).k 6), .int .u8 (bt ((lookC (s.low.adds s.tail).cs q).getD .z0).k 7), .int .i64 ((lookC (s.low.adds s.tail).cs q).getD .z0).v, .string ((lookC (s.low.adds s.tail).cs q).getD .z0).s]) (.agg #[.int .u8 (bt ((lookC (s.low.adds s.tail).cs q).getD .z0).k 0), .int .u8 (bt ((lookC (s.low.adds s.tail).cs q).getD .z0).k 1), .int .u8 (bt ((lookC (s.low.adds s.tail).cs q).getD .z0).k 2), .int .u8 (bt ((lookC (s.low.adds s.tail).cs q).getD .z0).k 3), .int .u8 (bt ((lookC (s.low.adds s.tail).cs q).getD .z0).k 4), .int .u8 (bt ((lookC (s.low.adds s.tail).cs q).getD .z0).k 5), .int .u8 (bt ((lookC (s.low.adds s.tail).cs q).getD .z0).k 6), .int .u8 (bt ((lookC (s.low.adds s.tail).cs q).getD .z0).k 7), .int .i64 ((lookC (s.low.adds s.tail).cs q).getD .z0).v, .string ((lookC (s.low.adds s.tail).cs q).getD .z0).s])).run Tryd.prog W = .ok () W := fun W => by go_simp
                    generalize Value.agg #[.int .u8 (bt ((lookC (s.low.adds (s.tail.take (s.com - s.low.ix).toNat)).cs q).getD .z0).k 0), .int .u8 (bt ((lookC (s.low.adds (s.tail.take (s.com - s.low.ix).toNat)).cs q).getD .z0).k 1), .int .u8 (bt ((lookC (s.low.adds (s.tail.take (s.com - s.low.ix).toNat)).cs q).getD .z0).k 2), .int .u8 (bt ((lookC (s.low.adds (s.tail.take (s.com - s.low.ix).toNat)).cs q).getD .z0).k 3), .int .u8 (bt ((lookC (s.low.adds (s.tail.take (s.com - s.low.ix).toNat)).cs q).getD .z0).k 4), .int .u8 (bt ((lookC (s.low.adds (s.tail.take (s.com - s.low.ix).toNat)).cs q).getD .z0).k 5), .int .u8 (bt ((lookC (s.low.adds (s.tail.take (s.com - s.low.ix).toNat)).cs q).getD .z0).k 6), .int .u8 (bt ((lookC (s.low.adds (s.tail.take (s.com - s.low.ix).toNat)).cs q).getD .z0).k 7), .int .i64 ((lookC (s.low.adds (s.tail.take (s.com - s.low.ix).toNat)).cs q).getD .z0).v, .string ((lookC (s.low.adds (s.tail.take (s.com - s.low.ix).toNat)).cs q).getD .z0).s] = tvc at hc1 hc2 hec hgc
                    generalize Value.agg #[.int .u8 (bt ((lookC (s.low.adds s.tail).cs q).getD .z0).k 0), .int .u8 (bt ((lookC (s.low.adds s.tail).cs q).getD .z0).k 1), .int .u8 (bt ((lookC (s.low.adds s.tail).cs q).getD .z0).k 2), .int .u8 (bt ((lookC (s.low.adds s.tail).cs q).getD .z0).k 3), .int .u8 (bt ((lookC (s.low.adds s.tail).cs q).getD .z0).k 4), .int .u8 (bt ((lookC (s.low.adds s.tail).cs q).getD .z0).k 5), .int .u8 (bt ((lookC (s.low.adds s.tail).cs q).getD .z0).k 6), .int .u8 (bt ((lookC (s.low.adds s.tail).cs q).getD .z0).k 7), .int .i64 ((lookC (s.low.adds s.tail).cs q).getD .z0).v, .string ((lookC (s.low.adds s.tail).cs q).getD .z0).s] = tvt at ht1 ht2 het hgt
                    clear hwh htp hl1 he1 hix hcqq HGL
                    have hTV := hT.up hM.bel
                    go_wp2_with fail
                    have hS0 : Bl wr wr.drew := (Below.refl _ _).drew
                    refine wp_region_det [0, 1, 2, 3, 4, 5, 6, 7, 8, 9, 10, 11, 12, 13, 14, 15, 16, 17, 18, 19, 20, 21, 22, 23, 25, 28, 29, 30, 31, 32, 33, 34, 35, 36, 37, 38, 39, 40, 41, 42, 43, 44, 45, 46, 47, 48, 49, 50, 51, 52, 53, 54, 55] (Bl wr) (Bl wr) (by kernel_rfl) hS0 ?_
                    refine wpDet_take ?vW0 (Bl.stays wr) (fun _ h => h) (i := 0) rfl (by kernel_rfl) (by kernel_rfl) (by kernel_rfl) (by kernel_rfl) (fun _ _ _ h => h) (Gives.value (by rfl) ?yW0) ?rW0
                    case yW0 => (intro w' hSw; (try dsimp only at hSw); go_simp; try with_reducible rfl)
                    (try simp only [Act.put, List.getElem_toArray, List.getElem_cons_zero, List.getElem_cons_succ, List.setIfInBounds_toArray, List.set_cons_zero, List.set_cons_succ])
                    refine wpDet_take ?vW1 (Bl.stays wr) (fun _ h => h) (i := 1) rfl (by kernel_rfl) (by kernel_rfl) (by kernel_rfl) (by kernel_rfl) (fun _ _ _ h => h) (Gives.value (by rfl) ?yW1) ?rW1
                    case yW1 => (intro w' hSw; (try dsimp only at hSw); go_simp; try with_reducible rfl)
                    (try simp only [Act.put, List.getElem_toArray, List.getElem_cons_zero, List.getElem_cons_succ, List.setIfInBounds_toArray, List.set_cons_zero, List.set_cons_succ])
                    refine wpDet_take ?vW2 (Bl.stays wr) (fun _ h => h) (i := 2) rfl (by kernel_rfl) (by kernel_rfl) (by kernel_rfl) (by kernel_rfl) (fun _ _ _ h => h) (Gives.value (by rfl) ?yW2) ?rW2
                    case yW2 => (intro w' hSw; (try dsimp only at hSw); go_simp; try with_reducible rfl)
                    (try simp only [Act.put, List.getElem_toArray, List.getElem_cons_zero, List.getElem_cons_succ, List.setIfInBounds_toArray, List.set_cons_zero, List.set_cons_succ])
                    refine wpDet_take ?vW3 (Bl.stays wr) (fun _ h => h) (i := 3) rfl (by kernel_rfl) (by kernel_rfl) (by kernel_rfl) (by kernel_rfl) (fun _ _ _ h => h) (Gives.value (by rfl) ?yW3) ?rW3
                    case yW3 => (intro w' hSw; (try dsimp only at hSw); go_simp; try with_reducible rfl)
                    (try simp only [Act.put, List.getElem_toArray, List.getElem_cons_zero, List.getElem_cons_succ, List.setIfInBounds_toArray, List.set_cons_zero, List.set_cons_succ])
                    refine wpDet_take ?vW4 (Bl.stays wr) (fun _ h => h) (i := 4) rfl (by kernel_rfl) (by kernel_rfl) (by kernel_rfl) (by kernel_rfl) (fun _ _ _ h => h) (Gives.value (by rfl) ?yW4) ?rW4
                    case yW4 => (intro w' hSw; (try dsimp only at hSw); go_simp; try with_reducible rfl)
                    (try simp only [Act.put, List.getElem_toArray, List.getElem_cons_zero, List.getElem_cons_succ, List.setIfInBounds_toArray, List.set_cons_zero, List.set_cons_succ])
                    refine wpDet_take ?vW5 (Bl.stays wr) (fun _ h => h) (i := 5) rfl (by kernel_rfl) (by kernel_rfl) (by kernel_rfl) (by kernel_rfl) (fun _ _ _ h => h) (Gives.value (by rfl) ?yW5) ?rW5
                    case yW5 => (intro w' hSw; (try dsimp only at hSw); go_simp; try with_reducible rfl)
                    (try simp only [Act.put, List.getElem_toArray, List.getElem_cons_zero, List.getElem_cons_succ, List.setIfInBounds_toArray, List.set_cons_zero, List.set_cons_succ])
                    refine wpDet_take ?vW6 (Bl.stays wr) (fun _ h => h) (i := 6) rfl (by kernel_rfl) (by kernel_rfl) (by kernel_rfl) (by kernel_rfl) (fun _ _ _ h => h) (Gives.value (by rfl) ?yW6) ?rW6
                    case yW6 => (intro w' hSw; (try dsimp only at hSw); go_simp; try with_reducible rfl)
                    (try simp only [Act.put, List.getElem_toArray, List.getElem_cons_zero, List.getElem_cons_succ, List.setIfInBounds_toArray, List.set_cons_zero, List.set_cons_succ])
                    refine wpDet_take ?vW7 (Bl.stays wr) (fun _ h => h) (i := 7) rfl (by kernel_rfl) (by kernel_rfl) (by kernel_rfl) (by kernel_rfl) (fun _ _ _ h => h) (Gives.value (by rfl) ?yW7) ?rW7
                    case yW7 => (intro w' hSw; (try dsimp only at hSw); go_simp; try with_reducible rfl)
                    (try simp only [Act.put, List.getElem_toArray, List.getElem_cons_zero, List.getElem_cons_succ, List.setIfInBounds_toArray, List.set_cons_zero, List.set_cons_succ])
                    refine wpDet_take ?vW8 (Bl.stays wr) (fun _ h => h) (i := 8) rfl (by kernel_rfl) (by kernel_rfl) (by kernel_rfl) (by kernel_rfl) (fun _ _ _ h => h) (Gives.value (by rfl) ?yW8) ?rW8
                    case yW8 => (intro w' hSw; (try dsimp only at hSw); go_simp; try with_reducible rfl)
                    (try simp only [Act.put, List.getElem_toArray, List.getElem_cons_zero, List.getElem_cons_succ, List.setIfInBounds_toArray, List.set_cons_zero, List.set_cons_succ])
                    refine wpDet_take ?vW9 (Bl.stays wr) (fun _ h => h) (i := 9) rfl (by kernel_rfl) (by kernel_rfl) (by kernel_rfl) (by kernel_rfl) (fun _ _ _ h => h) (Gives.value (by rfl) ?yW9) ?rW9
                    case yW9 => (intro w' hSw; (try dsimp only at hSw); go_simp; try with_reducible rfl)
                    (try simp only [Act.put, List.getElem_toArray, List.getElem_cons_zero, List.getElem_cons_succ, List.setIfInBounds_toArray, List.set_cons_zero, List.set_cons_succ])
                    refine wpDet_take (.int .i64 s.com) (Bl.stays wr) (fun _ h => h) (i := 10) rfl (by kernel_rfl) (by kernel_rfl) (by kernel_rfl) (by kernel_rfl) (fun _ _ _ h => h) (Gives.call 15 #[.pointer (some ⟨g, 0, none⟩)] (by rfl) (fun _ => by first | (go_simp; done) | (go_simp; rfl)) (fun W hW => (hCm _ hW))) ?_
                    (try simp only [Act.put, List.getElem_toArray, List.getElem_cons_zero, List.getElem_cons_succ, List.setIfInBounds_toArray, List.set_cons_zero, List.set_cons_succ])
                    refine wpDet_take ?vW11 (Bl.stays wr) (fun _ h => h) (i := 11) rfl (by kernel_rfl) (by kernel_rfl) (by kernel_rfl) (by kernel_rfl) (fun _ _ _ h => h) (Gives.value (by rfl) ?yW11) ?rW11
                    case yW11 => (intro w' hSw; (try dsimp only at hSw); go_simp; try with_reducible rfl)
                    (try simp only [Act.put, List.getElem_toArray, List.getElem_cons_zero, List.getElem_cons_succ, List.setIfInBounds_toArray, List.set_cons_zero, List.set_cons_succ])
                    refine wpDet_take (.int .i64 s.com) (Bl.stays wr) (fun _ h => h) (i := 12) rfl (by kernel_rfl) (by kernel_rfl) (by kernel_rfl) (by kernel_rfl) (fun _ _ _ h => h) (Gives.call 15 #[.pointer (some ⟨g2, 0, none⟩)] (by rfl) (fun _ => by first | (go_simp; done) | (go_simp; rfl)) (fun W hW => (commitX (hC2.below hW)))) ?_
                    (try simp only [Act.put, List.getElem_toArray, List.getElem_cons_zero, List.getElem_cons_succ, List.setIfInBounds_toArray, List.set_cons_zero, List.set_cons_succ])
                    refine wpDet_take ?vW13 (Bl.stays wr) (fun _ h => h) (i := 13) rfl (by kernel_rfl) (by kernel_rfl) (by kernel_rfl) (by kernel_rfl) (fun _ _ _ h => h) (Gives.value (by rfl) ?yW13) ?rW13
                    case yW13 => (intro w' hSw; (try dsimp only at hSw); go_simp; try with_reducible rfl)
                    (try simp only [Act.put, List.getElem_toArray, List.getElem_cons_zero, List.getElem_cons_succ, List.setIfInBounds_toArray, List.set_cons_zero, List.set_cons_succ])
                    refine wpDet_take ?vW14 (Bl.stays wr) (fun _ h => h) (i := 14) rfl (by kernel_rfl) (by kernel_rfl) (by kernel_rfl) (by kernel_rfl) (fun _ _ _ h => h) (Gives.value (by rfl) ?yW14) ?rW14
                    case yW14 => (intro w' hSw; (try dsimp only at hSw); go_simp; try with_reducible rfl)
                    (try simp only [Act.put, List.getElem_toArray, List.getElem_cons_zero, List.getElem_cons_succ, List.setIfInBounds_toArray, List.set_cons_zero, List.set_cons_succ])
                    refine wpDet_take ?vW15 (Bl.stays wr) (fun _ h => h) (i := 15) rfl (by kernel_rfl) (by kernel_rfl) (by kernel_rfl) (by kernel_rfl) (fun _ _ _ h => h) (Gives.value (by rfl) ?yW15) ?rW15
                    case yW15 => (intro w' hSw; (try dsimp only at hSw); go_simp; try with_reducible rfl)
                    (try simp only [Act.put, List.getElem_toArray, List.getElem_cons_zero, List.getElem_cons_succ, List.setIfInBounds_toArray, List.set_cons_zero, List.set_cons_succ])
                    refine wpDet_take ?vW16 (Bl.stays wr) (fun _ h => h) (i := 16) rfl (by kernel_rfl) (by kernel_rfl) (by kernel_rfl) (by kernel_rfl) (fun _ _ _ h => h) (Gives.value (by rfl) ?yW16) ?rW16
                    case yW16 => (intro w' hSw; (try dsimp only at hSw); go_simp; try with_reducible rfl)
                    (try simp only [Act.put, List.getElem_toArray, List.getElem_cons_zero, List.getElem_cons_succ, List.setIfInBounds_toArray, List.set_cons_zero, List.set_cons_succ])
                    refine wpDet_take (.int .i64 (s.last - s.com)) (Bl.stays wr) (fun _ h => h) (i := 17) rfl (by kernel_rfl) (by kernel_rfl) (by kernel_rfl) (by kernel_rfl) (fun _ _ _ h => h) (Gives.call 33 #[.pointer (some ⟨g, 0, none⟩)] (by rfl) (fun _ => by first | (go_simp; done) | (go_simp; rfl)) (fun W hW => (hD1 _ hW))) ?_
                    (try simp only [Act.put, List.getElem_toArray, List.getElem_cons_zero, List.getElem_cons_succ, List.setIfInBounds_toArray, List.set_cons_zero, List.set_cons_succ])
                    refine wpDet_take ?vW18 (Bl.stays wr) (fun _ h => h) (i := 18) rfl (by kernel_rfl) (by kernel_rfl) (by kernel_rfl) (by kernel_rfl) (fun _ _ _ h => h) (Gives.value (by rfl) ?yW18) ?rW18
                    case yW18 => (intro w' hSw; (try dsimp only at hSw); go_simp; try with_reducible rfl)
                    (try simp only [Act.put, List.getElem_toArray, List.getElem_cons_zero, List.getElem_cons_succ, List.setIfInBounds_toArray, List.set_cons_zero, List.set_cons_succ])
                    refine wpDet_take (.int .i64 (s.last - s.com)) (Bl.stays wr) (fun _ h => h) (i := 19) rfl (by kernel_rfl) (by kernel_rfl) (by kernel_rfl) (by kernel_rfl) (fun _ _ _ h => h) (Gives.call 33 #[.pointer (some ⟨g2, 0, none⟩)] (by rfl) (fun _ => by first | (go_simp; done) | (go_simp; rfl)) (fun W hW => (dirtyX (hC2.below hW)))) ?_
                    (try simp only [Act.put, List.getElem_toArray, List.getElem_cons_zero, List.getElem_cons_succ, List.setIfInBounds_toArray, List.set_cons_zero, List.set_cons_succ])
                    refine wpDet_take ?vW20 (Bl.stays wr) (fun _ h => h) (i := 20) rfl (by kernel_rfl) (by kernel_rfl) (by kernel_rfl) (by kernel_rfl) (fun _ _ _ h => h) (Gives.value (by rfl) ?yW20) ?rW20
                    case yW20 => (intro w' hSw; (try dsimp only at hSw); go_simp; try with_reducible rfl)
                    (try simp only [Act.put, List.getElem_toArray, List.getElem_cons_zero, List.getElem_cons_succ, List.setIfInBounds_toArray, List.set_cons_zero, List.set_cons_succ])
                    refine wpDet_take ?vW21 (Bl.stays wr) (fun _ h => h) (i := 21) rfl (by kernel_rfl) (by kernel_rfl) (by kernel_rfl) (by kernel_rfl) (fun _ _ _ h => h) (Gives.value (by rfl) ?yW21) ?rW21
                    case yW21 => (intro w' hSw; (try dsimp only at hSw); go_simp; try with_reducible rfl)
                    (try simp only [Act.put, List.getElem_toArray, List.getElem_cons_zero, List.getElem_cons_succ, List.setIfInBounds_toArray, List.set_cons_zero, List.set_cons_succ])
                    refine wpDet_take ?vW22 (Bl.stays wr) (fun _ h => h) (i := 22) rfl (by kernel_rfl) (by kernel_rfl) (by kernel_rfl) (by kernel_rfl) (fun _ _ _ h => h) (Gives.value (by rfl) ?yW22) ?rW22
                    case yW22 => (intro w' hSw; (try dsimp only at hSw); go_simp; try with_reducible rfl)
                    (try simp only [Act.put, List.getElem_toArray, List.getElem_cons_zero, List.getElem_cons_succ, List.setIfInBounds_toArray, List.set_cons_zero, List.set_cons_succ])
                    refine wpDet_take ?vW23 (Bl.stays wr) (fun _ h => h) (i := 23) rfl (by kernel_rfl) (by kernel_rfl) (by kernel_rfl) (by kernel_rfl) (fun _ _ _ h => h) (Gives.value (by rfl) ?yW23) ?rW23
                    case yW23 => (intro w' hSw; (try dsimp only at hSw); go_simp; try with_reducible rfl)
                    (try simp only [Act.put, List.getElem_toArray, List.getElem_cons_zero, List.getElem_cons_succ, List.setIfInBounds_toArray, List.set_cons_zero, List.set_cons_succ])
                    refine wpDet_take ?vW25 (Bl.stays wr) (fun _ h => h) (i := 25) rfl (by kernel_rfl) (by kernel_rfl) (by kernel_rfl) (by kernel_rfl) (fun _ _ _ h => h) (Gives.value (by rfl) ?yW25) ?rW25
                    case yW25 => (intro w' hSw; (try dsimp only at hSw); go_simp; try with_reducible rfl)
                    (try simp only [Act.put, List.getElem_toArray, List.getElem_cons_zero, List.getElem_cons_succ, List.setIfInBounds_toArray, List.set_cons_zero, List.set_cons_succ])
                    refine wpDet_ready (rs := [24]) (by kernel_rfl) (by simp) (AllDet.cons rfl (fun V hV K hK => ?_) AllDet.nil)
                    rw [if_pos (by rfl)]
                    have hbV := Bl.out hV
                    refine wp_enterX 35 #[.pointer (some ⟨g, 0, none⟩)] (by first | (go_simp; done) | (go_simp; rfl)) (fun x W => TabR W x (s.low.adds (s.tail.take (s.com - s.low.ix).toNat)) ∧ Below V.heap.size V W) (((hW1 _ hbV)).mono fun r w' ⟨v, h1, h2, h3⟩ => ⟨v, h1, h2, h3⟩) ?_
                    rintro tv0 V7 ⟨hqx, hbx⟩
                    have hz7 : (TB1 wr tv0 (s.low.adds (s.tail.take (s.com - s.low.ix).toNat))) V7 := ⟨Bl.stays wr V _ hV hbx, hqx⟩
                    refine hK.out (TB1 wr tv0 (s.low.adds (s.tail.take (s.com - s.low.ix).toNat))) _ _ (TB1.stays _ _ _) (fun _ _ h => h.1) hz7 ?_
                    clear hK K hV hbV hqx hbx hz7
                    (try simp only [Act.put, List.getElem_toArray, List.getElem_cons_zero, List.getElem_cons_succ, List.setIfInBounds_toArray, List.set_cons_zero, List.set_cons_succ])
                    refine wpDet_ready (rs := [26]) (by kernel_rfl) (by simp) (AllDet.cons rfl (fun V hV K hK => ?_) AllDet.nil)
                    rw [if_pos (by rfl)]
                    have hbV := Bl.out hV.1
                    refine wp_enterX 35 #[.pointer (some ⟨g2, 0, none⟩)] (by first | (go_simp; done) | (go_simp; rfl)) (fun x W => TabR W x (s.low.adds (s.tail.take (s.com - s.low.ix).toNat)) ∧ Below V.heap.size V W) (((wholeX (hC2.below hbV) hkn.kn)).mono fun r w' ⟨v, h1, h2, h3⟩ => ⟨v, h1, h2, h3⟩) ?_
                    rintro tv1 V7 ⟨hqx, hbx⟩
                    have hz7 : (TB2 wr tv0 (s.low.adds (s.tail.take (s.com - s.low.ix).toNat)) tv1 (s.low.adds (s.tail.take (s.com - s.low.ix).toNat))) V7 := ⟨Bl.stays wr V _ hV.1 hbx, hV.2.below hbx, hqx⟩
                    refine hK.out (TB2 wr tv0 (s.low.adds (s.tail.take (s.com - s.low.ix).toNat)) tv1 (s.low.adds (s.tail.take (s.com - s.low.ix).toNat))) _ _ (TB2.stays _ _ _ _ _) (fun _ _ h => h.1) hz7 ?_
                    clear hK K hV hbV hqx hbx hz7
                    (try simp only [Act.put, List.getElem_toArray, List.getElem_cons_zero, List.getElem_cons_succ, List.setIfInBounds_toArray, List.set_cons_zero, List.set_cons_succ])
                    refine wpDet_ready (rs := [27]) (by kernel_rfl) (by simp) (AllDet.cons rfl (fun V hV K hK => ?_) AllDet.nil)
                    rw [if_pos (by rfl)]
                    have hbV := Bl.out hV.1
                    refine wp_enterX 34 #[tv0, tv1] (by first | (go_simp; done) | (go_simp; rfl)) (fun x W => x = .bool true ∧ Below V.heap.size V W) ((sameX hV.2.1 hV.2.2 (hkn.kn.take _)).mono fun r w' ⟨h1, h2⟩ => ⟨_, h1, rfl, h2⟩) ?_
                    rintro x7 V7 ⟨rfl, hbx⟩
                    have hz7 : Bl wr V7 := Bl.stays wr V _ hV.1 hbx
                    refine hK.out (Bl wr) _ _ (Bl.stays wr) (fun _ _ h => h) hz7 ?_
                    clear hK K hV hbV hbx hz7
                    (try simp only [Act.put, List.getElem_toArray, List.getElem_cons_zero, List.getElem_cons_succ, List.setIfInBounds_toArray, List.set_cons_zero, List.set_cons_succ])
                    refine wpDet_take ?vW28 (Bl.stays wr) (fun _ h => h) (i := 28) rfl (by kernel_rfl) (by kernel_rfl) (by kernel_rfl) (by kernel_rfl) (fun _ _ _ h => h) (Gives.value (by rfl) ?yW28) ?rW28
                    case yW28 => (intro w' hSw; (try dsimp only at hSw); go_simp; try with_reducible rfl)
                    (try simp only [Act.put, List.getElem_toArray, List.getElem_cons_zero, List.getElem_cons_succ, List.setIfInBounds_toArray, List.set_cons_zero, List.set_cons_succ])
                    refine wpDet_take ?vW29 (Bl.stays wr) (fun _ h => h) (i := 29) rfl (by kernel_rfl) (by kernel_rfl) (by kernel_rfl) (by kernel_rfl) (fun _ _ _ h => h) (Gives.value (by rfl) ?yW29) ?rW29
                    case yW29 => (intro w' hSw; (try dsimp only at hSw); go_simp; try with_reducible rfl)
                    (try simp only [Act.put, List.getElem_toArray, List.getElem_cons_zero, List.getElem_cons_succ, List.setIfInBounds_toArray, List.set_cons_zero, List.set_cons_succ])
                    refine wpDet_take ?vW30 (Bl.stays wr) (fun _ h => h) (i := 30) rfl (by kernel_rfl) (by kernel_rfl) (by kernel_rfl) (by kernel_rfl) (fun _ _ _ h => h) (Gives.value (by rfl) ?yW30) ?rW30
                    case yW30 => (intro w' hSw; (try dsimp only at hSw); go_simp; try with_reducible rfl)
                    (try simp only [Act.put, List.getElem_toArray, List.getElem_cons_zero, List.getElem_cons_succ, List.setIfInBounds_toArray, List.set_cons_zero, List.set_cons_succ])
                    refine wpDet_take ?vW31 (Bl.stays wr) (fun _ h => h) (i := 31) rfl (by kernel_rfl) (by kernel_rfl) (by kernel_rfl) (by kernel_rfl) (fun _ _ _ h => h) (Gives.value (by rfl) ?yW31) ?rW31
                    case yW31 => (intro w' hSw; (try dsimp only at hSw); go_simp; try with_reducible rfl)
                    (try simp only [Act.put, List.getElem_toArray, List.getElem_cons_zero, List.getElem_cons_succ, List.setIfInBounds_toArray, List.set_cons_zero, List.set_cons_succ])
                    refine wpDet_take (.bool true) (Bl.stays wr) (fun _ h => h) (i := 32) rfl (by kernel_rfl) (by kernel_rfl) (by kernel_rfl) (by kernel_rfl) (fun _ _ _ h => h) (Gives.call 25 #[.slice p1 (s.tail.length - r) c1, .slice p2 (s.tail.length - r) c2] (by rfl) (fun _ => by first | (go_simp; done) | (go_simp; rfl)) (fun W hW => (sameR_any (hr1.below hW) (hr2.below hW) (by omega)))) ?_
                    (try simp only [Act.put, List.getElem_toArray, List.getElem_cons_zero, List.getElem_cons_succ, List.setIfInBounds_toArray, List.set_cons_zero, List.set_cons_succ])
                    refine wpDet_take ?vW33 (Bl.stays wr) (fun _ h => h) (i := 33) rfl (by kernel_rfl) (by kernel_rfl) (by kernel_rfl) (by kernel_rfl) (fun _ _ _ h => h) (Gives.value (by rfl) ?yW33) ?rW33
                    case yW33 => (intro w' hSw; (try dsimp only at hSw); go_simp; try with_reducible rfl)
                    (try simp only [Act.put, List.getElem_toArray, List.getElem_cons_zero, List.getElem_cons_succ, List.setIfInBounds_toArray, List.set_cons_zero, List.set_cons_succ])
                    refine wpDet_take ?vW34 (Bl.stays wr) (fun _ h => h) (i := 34) rfl (by kernel_rfl) (by kernel_rfl) (by kernel_rfl) (by kernel_rfl) (fun _ _ _ h => h) (Gives.value (by rfl) ?yW34) ?rW34
                    case yW34 => (intro w' hSw; (try dsimp only at hSw); go_simp; try with_reducible rfl)
                    (try simp only [Act.put, List.getElem_toArray, List.getElem_cons_zero, List.getElem_cons_succ, List.setIfInBounds_toArray, List.set_cons_zero, List.set_cons_succ])
                    refine wpDet_take ?vW35 (Bl.stays wr) (fun _ h => h) (i := 35) rfl (by kernel_rfl) (by kernel_rfl) (by kernel_rfl) (by kernel_rfl) (fun _ _ _ h => h) (Gives.value (by rfl) ?yW35) ?rW35
                    case yW35 => (intro w' hSw; (try dsimp only at hSw); go_simp; try with_reducible rfl)
                    (try simp only [Act.put, List.getElem_toArray, List.getElem_cons_zero, List.getElem_cons_succ, List.setIfInBounds_toArray, List.set_cons_zero, List.set_cons_succ])
                    refine wpDet_take ?vW36 (Bl.stays wr) (fun _ h => h) (i := 36) rfl (by kernel_rfl) (by kernel_rfl) (by kernel_rfl) (by kernel_rfl) (fun _ _ _ h => h) (Gives.value (by rfl) ?yW36) ?rW36
                    case yW36 => (intro w' hSw; have kk := At.below hK (Bl.out hSw); have q0 := At.cell kk 0; have q1 := At.cell kk 1; have q2 := At.cell kk 2; have q3 := At.cell kk 3; have q4 := At.cell kk 4; have q5 := At.cell kk 5; have q6 := At.cell kk 6; have q7 := At.cell kk 7; simp only [List.getElem?_toArray, List.getElem?_cons_zero, List.getElem?_cons_succ] at q0 q1 q2 q3 q4 q5 q6 q7; (try dsimp only at hSw); go_simp; try with_reducible rfl)
                    (try simp only [Act.put, List.getElem_toArray, List.getElem_cons_zero, List.getElem_cons_succ, List.setIfInBounds_toArray, List.set_cons_zero, List.set_cons_succ])
                    refine wpDet_take tvc (Bl.stays wr) (fun _ h => h) (i := 37) rfl (by kernel_rfl) (by kernel_rfl) (by kernel_rfl) (by kernel_rfl) (fun _ _ _ h => h) (Gives.call 26 #[.pointer (some ⟨g, 0, none⟩), .agg #[.int .u8 (bt (q) 0), .int .u8 (bt (q) 1), .int .u8 (bt (q) 2), .int .u8 (bt (q) 3), .int .u8 (bt (q) 4), .int .u8 (bt (q) 5), .int .u8 (bt (q) 6), .int .u8 (bt (q) 7)]] (by rfl) (fun _ => by first | (go_simp; done) | (go_simp; rfl)) (fun W hW => (hc1 _ hW))) ?_
                    (try simp only [Act.put, List.getElem_toArray, List.getElem_cons_zero, List.getElem_cons_succ, List.setIfInBounds_toArray, List.set_cons_zero, List.set_cons_succ])
                    refine wpDet_take ?vW38 (Bl.stays wr) (fun _ h => h) (i := 38) rfl (by kernel_rfl) (by kernel_rfl) (by kernel_rfl) (by kernel_rfl) (fun _ _ _ h => h) (Gives.value (by rfl) ?yW38) ?rW38
                    case yW38 => (intro w' hSw; (try dsimp only at hSw); go_simp; try with_reducible rfl)
                    (try simp only [Act.put, List.getElem_toArray, List.getElem_cons_zero, List.getElem_cons_succ, List.setIfInBounds_toArray, List.set_cons_zero, List.set_cons_succ])
                    refine wpDet_take ?vW39 (Bl.stays wr) (fun _ h => h) (i := 39) rfl (by kernel_rfl) (by kernel_rfl) (by kernel_rfl) (by kernel_rfl) (fun _ _ _ h => h) (Gives.value (by rfl) ?yW39) ?rW39
                    case yW39 => (intro w' hSw; have kk := At.below hK (Bl.out hSw); have q0 := At.cell kk 0; have q1 := At.cell kk 1; have q2 := At.cell kk 2; have q3 := At.cell kk 3; have q4 := At.cell kk 4; have q5 := At.cell kk 5; have q6 := At.cell kk 6; have q7 := At.cell kk 7; simp only [List.getElem?_toArray, List.getElem?_cons_zero, List.getElem?_cons_succ] at q0 q1 q2 q3 q4 q5 q6 q7; (try dsimp only at hSw); go_simp; try with_reducible rfl)
                    (try simp only [Act.put, List.getElem_toArray, List.getElem_cons_zero, List.getElem_cons_succ, List.setIfInBounds_toArray, List.set_cons_zero, List.set_cons_succ])
                    refine wpDet_take tvc (Bl.stays wr) (fun _ h => h) (i := 40) rfl (by kernel_rfl) (by kernel_rfl) (by kernel_rfl) (by kernel_rfl) (fun _ _ _ h => h) (Gives.call 26 #[.pointer (some ⟨g2, 0, none⟩), .agg #[.int .u8 (bt (q) 0), .int .u8 (bt (q) 1), .int .u8 (bt (q) 2), .int .u8 (bt (q) 3), .int .u8 (bt (q) 4), .int .u8 (bt (q) 5), .int .u8 (bt (q) 6), .int .u8 (bt (q) 7)]] (by rfl) (fun _ => by first | (go_simp; done) | (go_simp; rfl)) (fun W hW => (hc2 _ hW))) ?_
                    (try simp only [Act.put, List.getElem_toArray, List.getElem_cons_zero, List.getElem_cons_succ, List.setIfInBounds_toArray, List.set_cons_zero, List.set_cons_succ])
                    refine wpDet_take ?vW41 (Bl.stays wr) (fun _ h => h) (i := 41) rfl (by kernel_rfl) (by kernel_rfl) (by kernel_rfl) (by kernel_rfl) (fun _ _ _ h => h) (Gives.value (by rfl) ?yW41) ?rW41
                    case yW41 => (intro w' hSw; have hq := hec w'; have hg := hgc w'; (try dsimp only at hSw); go_simp; try with_reducible rfl)
                    (try simp only [Act.put, List.getElem_toArray, List.getElem_cons_zero, List.getElem_cons_succ, List.setIfInBounds_toArray, List.set_cons_zero, List.set_cons_succ])
                    refine wpDet_take ?vW42 (Bl.stays wr) (fun _ h => h) (i := 42) rfl (by kernel_rfl) (by kernel_rfl) (by kernel_rfl) (by kernel_rfl) (fun _ _ _ h => h) (Gives.value (by rfl) ?yW42) ?rW42
                    case yW42 => (intro w' hSw; (try dsimp only at hSw); go_simp; try with_reducible rfl)
                    (try simp only [Act.put, List.getElem_toArray, List.getElem_cons_zero, List.getElem_cons_succ, List.setIfInBounds_toArray, List.set_cons_zero, List.set_cons_succ])
                    refine wpDet_take ?vW43 (Bl.stays wr) (fun _ h => h) (i := 43) rfl (by kernel_rfl) (by kernel_rfl) (by kernel_rfl) (by kernel_rfl) (fun _ _ _ h => h) (Gives.value (by rfl) ?yW43) ?rW43
                    case yW43 => (intro w' hSw; (try dsimp only at hSw); go_simp; try with_reducible rfl)
                    (try simp only [Act.put, List.getElem_toArray, List.getElem_cons_zero, List.getElem_cons_succ, List.setIfInBounds_toArray, List.set_cons_zero, List.set_cons_succ])
                    refine wpDet_take ?vW44 (Bl.stays wr) (fun _ h => h) (i := 44) rfl (by kernel_rfl) (by kernel_rfl) (by kernel_rfl) (by kernel_rfl) (fun _ _ _ h => h) (Gives.value (by rfl) ?yW44) ?rW44
                    case yW44 => (intro w' hSw; (try dsimp only at hSw); go_simp; try with_reducible rfl)
                    (try simp only [Act.put, List.getElem_toArray, List.getElem_cons_zero, List.getElem_cons_succ, List.setIfInBounds_toArray, List.set_cons_zero, List.set_cons_succ])
                    refine wpDet_take ?vW45 (Bl.stays wr) (fun _ h => h) (i := 45) rfl (by kernel_rfl) (by kernel_rfl) (by kernel_rfl) (by kernel_rfl) (fun _ _ _ h => h) (Gives.value (by rfl) ?yW45) ?rW45
                    case yW45 => (intro w' hSw; have kk := At.below hK (Bl.out hSw); have q0 := At.cell kk 0; have q1 := At.cell kk 1; have q2 := At.cell kk 2; have q3 := At.cell kk 3; have q4 := At.cell kk 4; have q5 := At.cell kk 5; have q6 := At.cell kk 6; have q7 := At.cell kk 7; simp only [List.getElem?_toArray, List.getElem?_cons_zero, List.getElem?_cons_succ] at q0 q1 q2 q3 q4 q5 q6 q7; (try dsimp only at hSw); go_simp; try with_reducible rfl)
                    (try simp only [Act.put, List.getElem_toArray, List.getElem_cons_zero, List.getElem_cons_succ, List.setIfInBounds_toArray, List.set_cons_zero, List.set_cons_succ])
                    refine wpDet_take tvt (Bl.stays wr) (fun _ h => h) (i := 46) rfl (by kernel_rfl) (by kernel_rfl) (by kernel_rfl) (by kernel_rfl) (fun _ _ _ h => h) (Gives.call 29 #[.pointer (some ⟨g, 0, none⟩), .agg #[.int .u8 (bt (q) 0), .int .u8 (bt (q) 1), .int .u8 (bt (q) 2), .int .u8 (bt (q) 3), .int .u8 (bt (q) 4), .int .u8 (bt (q) 5), .int .u8 (bt (q) 6), .int .u8 (bt (q) 7)]] (by rfl) (fun _ => by first | (go_simp; done) | (go_simp; rfl)) (fun W hW => (ht1 _ hW))) ?_
                    (try simp only [Act.put, List.getElem_toArray, List.getElem_cons_zero, List.getElem_cons_succ, List.setIfInBounds_toArray, List.set_cons_zero, List.set_cons_succ])
                    refine wpDet_take ?vW47 (Bl.stays wr) (fun _ h => h) (i := 47) rfl (by kernel_rfl) (by kernel_rfl) (by kernel_rfl) (by kernel_rfl) (fun _ _ _ h => h) (Gives.value (by rfl) ?yW47) ?rW47
                    case yW47 => (intro w' hSw; (try dsimp only at hSw); go_simp; try with_reducible rfl)
                    (try simp only [Act.put, List.getElem_toArray, List.getElem_cons_zero, List.getElem_cons_succ, List.setIfInBounds_toArray, List.set_cons_zero, List.set_cons_succ])
                    refine wpDet_take ?vW48 (Bl.stays wr) (fun _ h => h) (i := 48) rfl (by kernel_rfl) (by kernel_rfl) (by kernel_rfl) (by kernel_rfl) (fun _ _ _ h => h) (Gives.value (by rfl) ?yW48) ?rW48
                    case yW48 => (intro w' hSw; have kk := At.below hK (Bl.out hSw); have q0 := At.cell kk 0; have q1 := At.cell kk 1; have q2 := At.cell kk 2; have q3 := At.cell kk 3; have q4 := At.cell kk 4; have q5 := At.cell kk 5; have q6 := At.cell kk 6; have q7 := At.cell kk 7; simp only [List.getElem?_toArray, List.getElem?_cons_zero, List.getElem?_cons_succ] at q0 q1 q2 q3 q4 q5 q6 q7; (try dsimp only at hSw); go_simp; try with_reducible rfl)
                    (try simp only [Act.put, List.getElem_toArray, List.getElem_cons_zero, List.getElem_cons_succ, List.setIfInBounds_toArray, List.set_cons_zero, List.set_cons_succ])
                    refine wpDet_take tvt (Bl.stays wr) (fun _ h => h) (i := 49) rfl (by kernel_rfl) (by kernel_rfl) (by kernel_rfl) (by kernel_rfl) (fun _ _ _ h => h) (Gives.call 29 #[.pointer (some ⟨g2, 0, none⟩), .agg #[.int .u8 (bt (q) 0), .int .u8 (bt (q) 1), .int .u8 (bt (q) 2), .int .u8 (bt (q) 3), .int .u8 (bt (q) 4), .int .u8 (bt (q) 5), .int .u8 (bt (q) 6), .int .u8 (bt (q) 7)]] (by rfl) (fun _ => by first | (go_simp; done) | (go_simp; rfl)) (fun W hW => (ht2 _ hW))) ?_
                    (try simp only [Act.put, List.getElem_toArray, List.getElem_cons_zero, List.getElem_cons_succ, List.setIfInBounds_toArray, List.set_cons_zero, List.set_cons_succ])
                    refine wpDet_take ?vW50 (Bl.stays wr) (fun _ h => h) (i := 50) rfl (by kernel_rfl) (by kernel_rfl) (by kernel_rfl) (by kernel_rfl) (fun _ _ _ h => h) (Gives.value (by rfl) ?yW50) ?rW50
                    case yW50 => (intro w' hSw; have hq := het w'; have hg := hgt w'; (try dsimp only at hSw); go_simp; try with_reducible rfl)
                    (try simp only [Act.put, List.getElem_toArray, List.getElem_cons_zero, List.getElem_cons_succ, List.setIfInBounds_toArray, List.set_cons_zero, List.set_cons_succ])
                    refine wpDet_take ?vW51 (Bl.stays wr) (fun _ h => h) (i := 51) rfl (by kernel_rfl) (by kernel_rfl) (by kernel_rfl) (by kernel_rfl) (fun _ _ _ h => h) (Gives.value (by rfl) ?yW51) ?rW51
                    case yW51 => (intro w' hSw; (try dsimp only at hSw); go_simp; try with_reducible rfl)
                    (try simp only [Act.put, List.getElem_toArray, List.getElem_cons_zero, List.getElem_cons_succ, List.setIfInBounds_toArray, List.set_cons_zero, List.set_cons_succ])
                    refine wpDet_take ?vW52 (Bl.stays wr) (fun _ h => h) (i := 52) rfl (by kernel_rfl) (by kernel_rfl) (by kernel_rfl) (by kernel_rfl) (fun _ _ _ h => h) (Gives.value (by rfl) ?yW52) ?rW52
                    case yW52 => (intro w' hSw; (try dsimp only at hSw); go_simp; try with_reducible rfl)
                    (try simp only [Act.put, List.getElem_toArray, List.getElem_cons_zero, List.getElem_cons_succ, List.setIfInBounds_toArray, List.set_cons_zero, List.set_cons_succ])
                    refine wpDet_take (.bool true) (Bl.stays wr) (fun _ h => h) (i := 53) rfl (by kernel_rfl) (by kernel_rfl) (by kernel_rfl) (by kernel_rfl) (fun _ _ _ h => h) (Gives.call 12 #[] (by rfl) (fun _ => by first | (go_simp; done) | (go_simp; rfl)) (fun W hW => (awake_any _ (hTV.up hW)))) ?_
                    (try simp only [Act.put, List.getElem_toArray, List.getElem_cons_zero, List.getElem_cons_succ, List.setIfInBounds_toArray, List.set_cons_zero, List.set_cons_succ])
                    refine wpDet_take ?vW54 (Bl.stays wr) (fun _ h => h) (i := 54) rfl (by kernel_rfl) (by kernel_rfl) (by kernel_rfl) (by kernel_rfl) (fun _ _ _ h => h) (Gives.value (by rfl) ?yW54) ?rW54
                    case yW54 => (intro w' hSw; (try dsimp only at hSw); go_simp; try with_reducible rfl)
                    (try simp only [Act.put, List.getElem_toArray, List.getElem_cons_zero, List.getElem_cons_succ, List.setIfInBounds_toArray, List.set_cons_zero, List.set_cons_succ])
                    refine wpDet_take ?vW55 (Bl.stays wr) (fun _ h => h) (i := 55) rfl (by kernel_rfl) (by kernel_rfl) (by kernel_rfl) (by kernel_rfl) (fun _ _ _ h => h) (Gives.value (by rfl) ?yW55) ?rW55
                    case yW55 => (intro w' hSw; (try dsimp only at hSw); go_simp; try with_reducible rfl)
                    (try simp only [Act.put, List.getElem_toArray, List.getElem_cons_zero, List.getElem_cons_succ, List.setIfInBounds_toArray, List.set_cons_zero, List.set_cons_succ])
                    refine wpDet_done (by kernel_rfl) (fun W9 hV => ?_) _
                    have hB9 := hM.bel.trans ((Bl.out hV).mono hM.bel.size)
                    go_wp2_with fail
                    go_ret
                    exact ⟨rfl, hB9⟩
          · as_aux_lemma =>
              have hz : (chkE ix ep C D != 0) = true := by simpa using hcz
              generalize chkE ix ep C D = ce at *
              clear hcz
              have hW := awake_any _ (hT.up HB)
              go_wp2_with fail
              refine hW.mono ?_
              rintro e w9 ⟨rfl, hb9⟩
              go_wp2_with fail
              go_ret
              exact ⟨rfl, HB.trans (hb9.mono HB.size)⟩

end Go.Proofs.YtnbgdkdnlfomeaaDoor.M
