/-
  Own text: a search is made: the walk of newSearch.
-/
import Derived.Test.YtmfmjoibofadlaaONew
namespace Go.Proofs.Ytmfmjoibofadlaa.M
open Go.ChangeShapes Go.WideShapes Go.ChangeAt Go.RowKit Go.ChangeMaps Go.MapKept Go.Maps
set_option linter.unusedSimpArgs false

/-- A search of these calls that has not begun, in block g. -/
def NS (L : List Lo) (n : Nat) (w w' : World) (g : Nat) : Prop := ∃ s : Sr, s.h = g ∧ s.ok ∧ St s w' [] none 0 0 [] ∧ (s.L = L ∧ s.n = n ∧ s.mu = musN L n ∧ s.ah = ahL L ∧ s.R = rdF L n ∧ s.S = wrF L n) ∧ w.heap.size ≤ s.h ∧ w.heap.size ≤ s.mb

set_option maxRecDepth 20000 in
set_option maxHeartbeats 4000000 in
theorem newSearch_any (p : Option Addr) (n c : Nat) (L : List Lo) (w : World) (hr : RdO w p n c L) (h0 : 0 < n) (hn : n ≤ 24) (h1 : (wrF L n).length ≤ 1) (hs : ∀ i, (L.getD i .z0).s.size ≤ 24) :
    Calls Try.prog 24 #[.slice p n c] w fun e w' => ∃ g, e = .returned (.pointer (some ⟨g, 0, none⟩)) ∧ NS L n w w' g ∧ Below w.heap.size w w' := by
  obtain ⟨i0, hi0, hz0, hz1, hz2⟩ := info_parts infoI
  have hb0 := below_alloc w (.cells #[.slice p n c] 22)
  have hs0 : (w.alloc (.cells #[.slice p n c] 22)).heap.size = w.heap.size + 1 := by simp
  have hP := pastOf_any p n c L _ (hr.below hb0) (by omega)
  have kl : (w.alloc (.cells #[.slice p n c] 22)).cell? ⟨w.heap.size, 0, none⟩ = some (.slice p n c) := by simp
  obtain ⟨b, o, rfl, hc⟩ := hr.cells h0
  have hbl : b < w.heap.size := World.block_lt_of_cell? _ _ (hc 0 h0).1
  have hml := musN_lt L n
  rw [hs0] at hP
  go_enter Try.func24, Try.ntmps24
  go_wp2_with fail
  generalize (w.alloc (.cells #[.slice (some ⟨b, o, none⟩) n c] 22)) = V0 at *
  refine hP.mono ?_
  rintro e W1 ⟨rfl, hArr, hb1⟩
  rw [← hs0] at hb1
  have kl1 := (hb1.cell (p := ⟨w.heap.size, 0, none⟩) (World.block_lt_of_cell? _ _ kl)).trans kl
  have hbb1 := hb0.trans (hb1.mono (by omega))
  have hsz1 : w.heap.size + 1 ≤ W1.heap.size := by have := hb1.size; omega
  clear hP hb0 hb1 kl
  have harl := hArr.lt
  have e1 : (W1.alloc (.map #[] 0)).heap.size = W1.heap.size + 1 := by simp
  have hSW : SW ((W1.alloc (.map #[] 0)).alloc (.cells #[.slice (some ⟨b, o, none⟩) n c, .int .u64 (musN L n : Int), .slice (some ⟨w.heap.size + 1 + 1, 0, none⟩) n n, .slice none 0 0, .slice none 0 0, .map (some W1.heap.size), .slice none 0 0] 59)) (W1.heap.size + 1) (some ⟨b, o, none⟩) n c (musN L n) (some ⟨w.heap.size + 1 + 1, 0, none⟩) W1.heap.size (rdF L 0) (wrF L 0) none 0 0 none 0 0 ((W1.alloc (.map #[] 0)).alloc (.cells #[.slice (some ⟨b, o, none⟩) n c, .int .u64 (musN L n : Int), .slice (some ⟨w.heap.size + 1 + 1, 0, none⟩) n n, .slice none 0 0, .slice none 0 0, .map (some W1.heap.size), .slice none 0 0] 59)) := by
    refine ⟨Ch.refl _ _, ?_, OwS.nil _ _ _ _, OwS.nil _ _ _ _, by simp, fun a b ha => by cases ha⟩
    have := At.new 59 (W1.alloc (.map #[] 0)) #[.slice (some ⟨b, o, none⟩) n c, .int .u64 (musN L n : Int), .slice (some ⟨w.heap.size + 1 + 1, 0, none⟩) n n, .slice none 0 0, .slice none 0 0, .map (some W1.heap.size), .slice none 0 0]
    rw [e1] at this
    exact this
  have hmap : MapIs Try.prog 53 ((W1.alloc (.map #[] 0)).alloc (.cells #[.slice (some ⟨b, o, none⟩) n c, .int .u64 (musN L n : Int), .slice (some ⟨w.heap.size + 1 + 1, 0, none⟩) n n, .slice none 0 0, .slice none 0 0, .map (some W1.heap.size), .slice none 0 0] 59)) W1.heap.size 0 (fun _ => none) :=
    (MapIs.made W1).kept ((below_alloc _ _).block _ (by simp))
  have hbb2 : Below W1.heap.size W1 ((W1.alloc (.map #[] 0)).alloc (.cells #[.slice (some ⟨b, o, none⟩) n c, .int .u64 (musN L n : Int), .slice (some ⟨w.heap.size + 1 + 1, 0, none⟩) n n, .slice none 0 0, .slice none 0 0, .map (some W1.heap.size), .slice none 0 0] 59)) := (below_alloc _ _).trans ((below_alloc _ _).mono (by simp))
  have kl2 := (hbb2.cell (p := ⟨w.heap.size, 0, none⟩) (World.block_lt_of_cell? _ _ kl1)).trans kl1
  have hArr2 := hArr.below hbb2
  have hsz2 : ((W1.alloc (.map #[] 0)).alloc (.cells #[.slice (some ⟨b, o, none⟩) n c, .int .u64 (musN L n : Int), .slice (some ⟨w.heap.size + 1 + 1, 0, none⟩) n n, .slice none 0 0, .slice none 0 0, .map (some W1.heap.size), .slice none 0 0] 59)).heap.size = W1.heap.size + 2 := by simp
  have hbw := hbb1.trans (hbb2.mono hbb1.size)
  clear hbb2 hbb1 hArr hs0
  have hmk := run_makeMap (P := Try.prog) 57 W1
  go_wp2_with fail
  generalize hW2 : ((W1.alloc (.map #[] 0)).alloc (.cells #[.slice (some ⟨b, o, none⟩) n c, .int .u64 (musN L n : Int), .slice (some ⟨w.heap.size + 1 + 1, 0, none⟩) n n, .slice none 0 0, .slice none 0 0, .map (some W1.heap.size), .slice none 0 0] 59)) = W2 at *
  clear hW2 hmk kl1 hc
  have hrW := hr.below hbw
  generalize hh : W1.heap.size + 1 = h at *
  generalize hmb : W1.heap.size = mb at *
  have HZ : Hid (W2.heap.size = mb + 2) := hsz2
  clear hsz2
  go_loopw [13] (fun vi wr => ∃ (k : Nat) (rp : Option Addr) (rn rc : Nat) (wp : Option Addr) (wn wc : Nat), k ≤ n ∧ vi = .int .i64 k ∧ SW W2 h (some ⟨b, o, none⟩) n c (musN L n) (some ⟨w.heap.size + 1 + 1, 0, none⟩) mb (rdF L k) (wrF L k) rp rn rc wp wn wc wr) (fun vi _ => n - (intOf vi).toNat)
  case atStart => exact ⟨0, none, 0, 0, none, 0, 0, Nat.zero_le _, rfl, hSW⟩
  case round =>
    clear hSW
    obtain ⟨k, rp, rn, rc, wp, wn, wc, hk, rfl, hS⟩ := hrel
    by_cases hkn : k < n
    · obtain ⟨b', o', hbo, hcr⟩ := (hrW.ch hS.ch (fun a ha e => by cases ha; have e1 : b = h := e; omega)).cells (by omega)
      cases hbo
      obtain ⟨x0, x1, x2, x3, x4⟩ := hcr k hkn
      have hki : (k : Int) < (n : Int) := by omega
      have hA := fun W => answered_any (L.getD k .z0) W
      have HW : Hid (wrF L (k + 1) = if (L.getD k .z0).w = true then wrF L k ++ [(k : Int)] else wrF L k) := rfl
      have HR : Hid (rdF L (k + 1) = if (L.getD k .z0).w = true then rdF L k else if (L.getD k .z0).ans = true then rdF L k ++ [(k : Int)] else rdF L k) := rfl
      generalize L.getD k .z0 = lo at *
      obtain ⟨ow, os, ov, ob, oe⟩ := lo
      dsimp only at x0 x1 x2 x3 x4 HW HR
      have hba := below_alloc wr (.cells #[.bool ow, .string os, .int .i64 ov, .int .i64 ob, .int .i64 oe] 29)
      have hB5 := Bx.new wr ⟨ow, os, ov, ob, oe⟩ 29
      dsimp only at hB5
      obtain ⟨y0, y1, y2, y3, y4⟩ := hB5
      dsimp only at y0 y1 y2 y3 y4
      have hSa := hS.below hba
      have hhlt : h < wr.heap.size := hS.cs.lt
      have hhne : ¬ h = wr.heap.size := by omega
      have hhne2 : ¬ wr.heap.size = h := by omega
      have g40 : wr.cell? ⟨h, 4, none⟩ = some (.slice wp wn wc) := hS.cs.cell 4
      have hrll := rdF_len L k
      have hwll := wrF_len L k
      have hrn := hS.rds.len
      have hwn := hS.wrs.len
      clear hcr hS hba
      cases ow with
      | true =>
        have HW2 : Hid (wrF L (k + 1) = wrF L k ++ [(k : Int)]) := HW.out
        have HR2 : Hid (rdF L (k + 1) = rdF L k) := HR.out
        have hbx := below_alloc (wr.alloc (.cells #[.bool true, .string os, .int .i64 ov, .int .i64 ob, .int .i64 oe] 29)) (.cells #[.int .i64 (k : Int)] 3)
        have hSb := hSa.below hbx
        have g4 : (wr.alloc (.cells #[.bool true, .string os, .int .i64 ov, .int .i64 ob, .int .i64 oe] 29)).cell? ⟨h, 4, none⟩ = some (.slice wp wn wc) := hSa.cs.cell 4
        have hone := Rd.one .i64 (wr.alloc (.cells #[.bool true, .string os, .int .i64 ov, .int .i64 ob, .int .i64 oe] 29)) 3 (k : Int)
        rw [show (wr.alloc (.cells #[.bool true, .string os, .int .i64 ov, .int .i64 ob, .int .i64 oe] 29)).heap.size = wr.heap.size + 1 by simp] at hone
        clear HW HR hA
        go_wp2_with (refine wpList_app2 _ rfl (.tmp 25) (.tmp 27) 30 rfl .i64 3 i0 (.int .i64 0) 8 Try.underlying30 hi0 hz0 hz1 hz2 rfl W2.heap.size wp wn wc (wrF L k) rfl hSb.wrs _ 1 1 _ rfl hone ?c1 ?c2 ?c3 ?_)
        case c1 => omega
        case c2 => unfold maxLen; omega
        case c3 => exact Nat.le_trans hSb.ch.size (Nat.le_refl _)
        intro p7 c7 w6 ho7 hg7
        have hS7 := hSb.write hg7 ho7
        have hch := hg7.ch (fun k => ∃ a, wp = some a ∧ a.block = k) (fun a ha => ⟨a, ha, rfl⟩)
        have hnr : ¬ ∃ a, wp = some a ∧ a.block = h := by
          rintro ⟨a, ha, e⟩
          have := (hSb.wrs.lt ha).1; have := hSb.hB; omega
        have c64 : w6.cell? ⟨h, 4, none⟩ = some (.slice wp wn wc) := (hch.cell (p := ⟨h, 4, none⟩) hSb.cs.lt hnr).trans (hSb.cs.cell 4)
        have f64 : w6.frozen? ⟨h, 4, none⟩ = false := (hch.frozen (p := ⟨h, 4, none⟩) hSb.cs.lt hnr).trans (hSb.cs.free 4)
        rw [← HW2.out, ← HR2.out] at hS7
        clear hSa hSb hbx g4 ho7 hg7 hch hnr y0 y1 y2 y3 y4
        go_wp2_with fail
        go_roundw
        case rel => exact ⟨k + 1, rp, rn, rc, p7, wn + 1, c7, by omega, by go_num, hS7⟩
        case measure => simp [intOf]; omega
      | false =>
        have HW2 : Hid (wrF L (k + 1) = wrF L k) := HW.out
        generalize hz : (Lo.mk false os ov ob oe).ans = z at *
        clear HW hz
        go_wp2_with fail
        refine (hA _).mono ?_
        rintro e8 w8 ⟨rfl, hb8⟩
        have hSc := hSa.below hb8
        clear hA hSa y0 y1 y2 y3 y4 hb8 x0 x1 x2 x3 x4
        cases z with
        | true =>
          have HR2 : Hid (rdF L (k + 1) = rdF L k ++ [(k : Int)]) := HR.out
          have hbx := below_alloc w8 (.cells #[.int .i64 (k : Int)] 3)
          have hSb := hSc.below hbx
          have g3 : w8.cell? ⟨h, 3, none⟩ = some (.slice rp rn rc) := hSc.cs.cell 3
          clear HR
          go_wp2_with (refine wpList_app2 _ rfl (.tmp 38) (.tmp 40) 30 rfl .i64 3 i0 (.int .i64 0) 8 Try.underlying30 hi0 hz0 hz1 hz2 rfl W2.heap.size rp rn rc (rdF L k) rfl hSb.rds _ 1 1 _ rfl (Rd.one _ _ _ _) ?c1 ?c2 ?c3 ?_)
          case c1 => omega
          case c2 => unfold maxLen; omega
          case c3 => exact Nat.le_trans hSb.ch.size (Nat.le_refl _)
          intro p7 c7 w6 ho7 hg7
          have hS7 := hSb.read hg7 ho7
          have hch := hg7.ch (fun k => ∃ a, rp = some a ∧ a.block = k) (fun a ha => ⟨a, ha, rfl⟩)
          have hnr : ¬ ∃ a, rp = some a ∧ a.block = h := by
            rintro ⟨a, ha, e⟩
            have := (hSb.rds.lt ha).1; have := hSb.hB; omega
          have c63 : w6.cell? ⟨h, 3, none⟩ = some (.slice rp rn rc) := (hch.cell (p := ⟨h, 3, none⟩) hSb.cs.lt hnr).trans (hSb.cs.cell 3)
          have f63 : w6.frozen? ⟨h, 3, none⟩ = false := (hch.frozen (p := ⟨h, 3, none⟩) hSb.cs.lt hnr).trans (hSb.cs.free 3)
          rw [← HW2.out, ← HR2.out] at hS7
          clear hSc hSb hbx g3 ho7 hg7 hch hnr
          go_wp2_with fail
          go_roundw
          case rel => exact ⟨k + 1, p7, rn + 1, c7, wp, wn, wc, by omega, by go_num, hS7⟩
          case measure => simp [intOf]; omega
        | false =>
          have HR2 : Hid (rdF L (k + 1) = rdF L k) := HR.out
          rw [← HW2.out, ← HR2.out] at hSc
          clear HR
          go_wp2_with fail
          go_roundw
          case rel => exact ⟨k + 1, rp, rn, rc, wp, wn, wc, by omega, by go_num, hSc⟩
          case measure => simp [intOf]; omega
    · obtain rfl : k = n := by omega
      have hki : ¬ (k : Int) < (k : Int) := by omega
      have hwn := hS.wrs.len
      have c4 := hS.cs.cell 4
      have hSo := fun f W => sort1_any wp wn wc f (by omega) W
      go_wp2_with fail
      refine (hSo _ _).mono ?_
      rintro e9 w9 ⟨rfl, hb9⟩
      have hS9 := hS.below hb9
      have hZ := HZ.out
      have hsz9 := hS9.ch.size
      have har : ArrI 51 .u64 w9 (w.heap.size + 1 + 1) (ahL L) := (hS9.ch.block _ (by omega) (by omega)).trans hArr2
      have hsets : Rd .u64 w9 (some ⟨w.heap.size + 1 + 1, 0, none⟩) k k (ahL L) := ⟨by simp [ahL, hr.len], Nat.le_refl _, (fun h => by cases h), fun _ => ⟨_, 0, rfl, fun i hi => by rw [Nat.zero_add]; exact har.cell (by simp [ahL, hr.len]; omega)⟩⟩
      have hops := hrW.ch hS9.ch (fun a ha e => by cases ha; have e1 : b = h := e; omega)
      have hbb9 : Below w.heap.size w w9 := hbw.trans (hS9.ch.below (by omega) (fun j e => by omega))
      have hNS : NS L k w w9 h := by
        refine ⟨⟨h, some ⟨b, o, none⟩, k, c, some ⟨w.heap.size + 1 + 1, 0, none⟩, k, L, musN L k, ahL L, rp, rn, rc, rdF L k, wp, wn, wc, wrF L k, mb, w9.heap.size⟩, rfl, ?_, ?_, ⟨rfl, rfl, rfl, rfl, rfl, rfl⟩, by show w.heap.size ≤ h; omega, by show w.heap.size ≤ mb; omega⟩
        · have hrl := rdF_len L k
          have hrn := hS9.rds.len
          refine ⟨by show rn ≤ 24; omega, by show wn ≤ 1; omega, rdF_in L k, wrF_in L k, hs, by show h ≠ mb; omega, hS9.cs.lt, by show mb < w9.heap.size; omega, fun a ha => ?_, fun a ha => ?_, fun a ha => ?_, fun a ha => ?_⟩
          · cases ha; exact ⟨by show b ≠ h; omega, by show b ≠ mb; omega, by show b < w9.heap.size; omega⟩
          · cases ha; exact ⟨by show w.heap.size + 1 + 1 ≠ h; omega, by show w.heap.size + 1 + 1 ≠ mb; omega, by show w.heap.size + 1 + 1 < w9.heap.size; omega⟩
          · have h2 := hS9.rds.lt ha; exact ⟨by show a.block ≠ h; omega, by show a.block ≠ mb; omega, h2.2⟩
          · have h2 := hS9.wrs.lt ha; exact ⟨by show a.block ≠ h; omega, by show a.block ≠ mb; omega, h2.2⟩
        · exact ⟨⟨⟨hS9.cs.cell 0, hS9.cs.cell 1, hS9.cs.cell 2, hops, hsets, hml, ahL_wd L⟩, hS9.cs.cell 3, hS9.cs.cell 4, hS9.rds.rd, hS9.wrs.rd⟩, hS9.cs.cell 5, hS9.cs.cell 6, hS9.cs.free 6, ⟨fun _ => none, 0, hmap.kept (hS9.ch.block mb (by omega) (by omega)), fun d v => by simp [hasP]⟩, OwS.nil _ _ _ _, Nat.le_refl _⟩
      clear hSo hS hS9 hsets har hops hb9 c4
      go_wp2_with fail
      go_ret
      exact ⟨h, rfl, hNS, hbb9⟩

end Go.Proofs.Ytmfmjoibofadlaa.M
