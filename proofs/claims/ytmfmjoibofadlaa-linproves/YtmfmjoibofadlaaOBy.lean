/-
  Own text: the calls in the order of their versions: By.
-/
import Derived.Test.YtmfmjoibofadlaaOSrI
import Derived.Test.YtmfmjoibofadlaaONw
namespace Go.Proofs.Ytmfmjoibofadlaa.M
open Go.ChangeShapes Go.WideShapes Go.ChangeAt Go.RowKit Go.ChangeMaps Go.MapKept Go.Maps Go.Shelf Go.Proofs
set_option linter.unusedSimpArgs false

theorem placed_any (o : Lo) (w : World) : Calls Try.prog 31 #[.agg #[.bool o.w, .string o.s, .int .i64 o.v, .int .i64 o.b, .int .i64 o.e]] w fun e w' => e = .returned (.bool (plc o)) ∧ Below w.heap.size w w' := by
  obtain ⟨ow, os, ov, ob, oe⟩ := o
  unfold plc
  dsimp only
  cases ow with
  | true =>
    go_enter Try.func31, Try.ntmps31
    go_wp2_with fail
    go_ret
    exact ⟨rfl, below_alloc _ _⟩
  | false =>
    go_enter Try.func31, Try.ntmps31
    go_wp2_with fail
    go_ret
    exact ⟨rfl, below_alloc _ _⟩

set_option maxRecDepth 20000 in
theorem counts_any (o : Lo) (w : World) : Calls Try.prog 36 #[.agg #[.bool o.w, .string o.s, .int .i64 o.v, .int .i64 o.b, .int .i64 o.e]] w fun e w' => e = .returned (.bool (cntO o)) ∧ Below w.heap.size w w' := by
  have hA := fun W => answered_any o W
  have hP := fun W => placed_any o W
  have HC : Hid (cntO o = (o.ans || plc o)) := rfl
  have hb0 := below_alloc w (.cells #[.bool o.w, .string o.s, .int .i64 o.v, .int .i64 o.b, .int .i64 o.e] 29)
  have hB0 := Bx.new w o 29
  generalize cntO o = z at *
  generalize o.ans = za at *
  generalize plc o = zp at *
  obtain ⟨ow, os, ov, ob, oe⟩ := o
  dsimp only at *
  go_enter Try.func36, Try.ntmps36
  go_wp2_with fail
  generalize w.alloc (.cells #[.bool ow, .string os, .int .i64 ov, .int .i64 ob, .int .i64 oe] 29) = w1 at *
  refine (hA _).mono ?_
  rintro e w8 ⟨rfl, hb8⟩
  have hb := hb0.trans (hb8.mono hb0.size)
  obtain ⟨y0, y1, y2, y3, y4⟩ := hB0.below hb8
  dsimp only at y0 y1 y2 y3 y4
  clear hA hB0 hb0 hb8
  cases za with
  | true =>
    have HZ : Hid (z = true) := by show z = true; rw [HC.out]; rfl
    clear HC y0 y1 y2 y3 y4 hP
    go_wp2_with fail
    go_ret
    exact ⟨by rw [HZ.out]; rfl, hb⟩
  | false =>
    have HZ : Hid (z = zp) := by show z = zp; rw [HC.out]; rfl
    clear HC
    go_wp2_with fail
    refine (hP _).mono ?_
    rintro e w9 ⟨rfl, hb9⟩
    clear hP y0 y1 y2 y3 y4
    go_wp2_with fail
    go_ret
    exact ⟨by rw [HZ.out]; rfl, hb.trans (hb9.mono hb.size)⟩

/-- The places of the first k that count. -/
def cntF (L : List Lo) (k : Nat) : List Nat := (List.range k).filter fun i => cntO (L.getD i .z0)

theorem cntF_next (L : List Lo) (k : Nat) : cntF L (k + 1) = if cntO (L.getD k .z0) = true then cntF L k ++ [k] else cntF L k := by
  unfold cntF
  rw [List.range_succ, List.filter_append]
  by_cases h : cntO (L.getD k .z0) = true
  · rw [if_pos h, List.filter_cons_of_pos (p := fun i => cntO (L.getD i .z0)) h]; rfl
  · rw [if_neg h, List.filter_cons_of_neg (p := fun i => cntO (L.getD i .z0)) h]; simp

theorem cntF_len (L : List Lo) (k : Nat) : (cntF L k).length ≤ k := by
  unfold cntF
  exact Nat.le_trans (List.length_filter_le _ _) (by simp)

theorem cntF_mem (L : List Lo) (k i : Nat) : i ∈ cntF L k ↔ i < k ∧ cntO (L.getD i .z0) = true := by
  unfold cntF
  rw [List.mem_filter, List.mem_range]

theorem cntF_nodup (L : List Lo) (k : Nat) : (cntF L k).Nodup := by
  unfold cntF
  exact (List.nodup_range).filter _

theorem byRow_of {L : List Lo} {ys : List Nat} (hp : ys.Perm (cntF L L.length)) (hs : ys.Pairwise fun i j => ¬ lessO L j i) : ByRow L ys := by
  refine ⟨fun i => by rw [hp.mem_iff, cntF_mem], ?_⟩
  have hnd : ys.Pairwise (fun i j => i ≠ j) := (hp.nodup_iff).2 (cntF_nodup L _)
  exact (hs.and hnd).imp fun ⟨h1, h2⟩ => lessO_tot h1 (Ne.symm h2)

set_option maxRecDepth 20000 in
set_option maxHeartbeats 4000000 in
theorem by_any (p : Option Addr) (n c : Nat) (L : List Lo) (w : World) (hr : RdO w p n c L) (hn : n ≤ 900) :
    Calls Try.prog 19 #[.slice p n c] w fun e w' => ∃ (q : Option Addr) (d : Nat) (ys : List Nat), e = .returned (.slice q ys.length d) ∧ ByRow L ys ∧ Rd .i64 w' q ys.length d (ys.map fun i : Nat => (i : Int)) ∧ Below w.heap.size w w' ∧ (0 < ys.length → ∀ a, q = some a → w.heap.size ≤ a.block) := by
  obtain ⟨i0, hi0, hz0, hz1, hz2⟩ := info_parts infoI
  have hLn : L.length = n := hr.len
  have hb0 := below_alloc w (.cells #[.slice p n c] 22)
  have hG := At.new 22 w #[.slice p n c]
  have hr1 := hr.below hb0
  have k0 : (w.alloc (.cells #[.slice p n c] 22)).cell? ⟨w.heap.size, 0, none⟩ = some (.slice p n c) := by simp
  have hpl : 0 < n → ∀ a, p = some a → a.block < w.heap.size := fun h0 a ha => by
    obtain ⟨b, o, e, hc⟩ := hr.cells h0
    rw [ha] at e
    cases e
    exact World.block_lt_of_cell? _ _ (hc 0 h0).1
  go_enter Try.func19, Try.ntmps19
  go_wp2_with fail
  clear hr k0
  have hw1 : w.heap.size < (w.alloc (.cells #[.slice p n c] 22)).heap.size := by simp
  generalize (w.alloc (.cells #[.slice p n c] 22)) = w1 at *
  have hO : OwS .i64 3 w1 w1.heap.size none 0 0 ((cntF L 0).map fun i : Nat => (i : Int)) := OwS.nil _ _ _ _
  go_loopw [8, 3, 4] (fun vi v3 v4 wr => ∃ (k : Nat) (q : Option Addr) (d : Nat), k ≤ n ∧ vi = .int .i64 k ∧ v3 = .slice q (cntF L k).length d ∧ OwS .i64 3 wr w1.heap.size q (cntF L k).length d ((cntF L k).map fun i : Nat => (i : Int)) ∧ Below w1.heap.size w1 wr) (fun vi _ _ _ => n - (intOf vi).toNat)
  case atStart => exact ⟨0, none, 0, Nat.zero_le _, rfl, rfl, hO, Below.refl _ _⟩
  case round =>
    clear hO
    obtain ⟨k, q, d, hk, rfl, rfl, ho, hb⟩ := hrel
    have hcl := cntF_len L k
    by_cases hkn : k < n
    · as_aux_lemma =>
      have hki : (k : Int) < (n : Int) := by omega
      obtain ⟨b, o, rfl, hcr⟩ := (hr1.below hb).cells (by omega)
      obtain ⟨x0, x1, x2, x3, x4⟩ := hcr k hkn
      have hC := fun W => counts_any (L.getD k .z0) W
      have HN : Hid (cntF L (k + 1) = if cntO (L.getD k .z0) = true then cntF L k ++ [k] else cntF L k) := cntF_next L k
      clear hcr
      generalize L.getD k .z0 = lo at *
      generalize cntF L k = xs at *
      obtain ⟨ow, os, ov, ob, oe⟩ := lo
      dsimp only at x0 x1 x2 x3 x4 hC
      have hba := below_alloc wr (.cells #[.bool ow, .string os, .int .i64 ov, .int .i64 ob, .int .i64 oe] 29)
      obtain ⟨y0, y1, y2, y3, y4⟩ := Bx.new wr ⟨ow, os, ov, ob, oe⟩ 29
      dsimp only at y0 y1 y2 y3 y4
      have ho1 := ho.same (w' := (wr.alloc (.cells #[.bool ow, .string os, .int .i64 ov, .int .i64 ob, .int .i64 oe] 29))) fun a ha => hba.block _ (ho.lt ha).2
      have hb1 := hb.trans (hba.mono hb.size)
      clear ho hb
      generalize hz : cntO ⟨ow, os, ov, ob, oe⟩ = z at *
      clear hz
      go_wp2_with fail
      refine (hC _).mono ?_
      rintro e w8 ⟨rfl, hb8⟩
      have ho2 := ho1.same (w' := w8) fun a ha => hb8.block _ (ho1.lt ha).2
      have hb2 := hb1.trans (hb8.mono hb1.size)
      clear hC ho1 hb1 hb8 y0 y1 y2 y3 y4 x0 x1 x2 x3 x4 hba
      cases z with
      | true =>
        have HN2 : Hid (cntF L (k + 1) = xs ++ [k]) := by show cntF L (k + 1) = xs ++ [k]; rw [HN.out]; rfl
        have hbx := below_alloc w8 (.cells #[.int .i64 (k : Int)] 3)
        have ho3 := ho2.same (w' := w8.alloc (.cells #[.int .i64 (k : Int)] 3)) fun a ha => hbx.block _ (ho2.lt ha).2
        have hb3 := hb2.trans (hbx.mono hb2.size)
        clear HN
        go_wp2_with (refine wpList_app2 _ rfl (.tmp 15) (.tmp 17) 30 rfl .i64 3 i0 (.int .i64 0) 8 Try.underlying30 hi0 hz0 hz1 hz2 rfl w1.heap.size q xs.length d (xs.map fun i : Nat => (i : Int)) rfl ho3 _ 1 1 _ rfl (Rd.one _ _ _ _) ?c1 ?c2 ?c3 ?_)
        case c1 => omega
        case c2 => unfold maxLen; omega
        case c3 => exact hb3.size
        intro p7 c7 w6 ho7 hg7
        have hch := hg7.ch (fun k => ∃ a, q = some a ∧ a.block = k) (fun a ha => ⟨a, ha, rfl⟩)
        have hb7 := hb3.trans (hch.below hb3.size fun j ⟨a, ha, e⟩ => by have := (ho3.lt ha).1; omega)
        have hfin : ∃ (k' : Nat) (q' : Option Addr) (d' : Nat), k' ≤ n ∧ Value.int .i64 ((k : Int) + 1) = .int .i64 k' ∧ Value.slice p7 (xs.length + 1) c7 = .slice q' (cntF L k').length d' ∧ OwS .i64 3 w6 w1.heap.size q' (cntF L k').length d' ((cntF L k').map fun i : Nat => (i : Int)) ∧ Below w1.heap.size w1 w6 := by
          refine ⟨k + 1, p7, c7, by omega, by go_num, ?_, ?_, hb7⟩
          · rw [HN2.out]; simp
          · rw [HN2.out]
            have e1 : (xs ++ [k]).length = xs.length + 1 := by simp
            rw [e1, List.map_append]
            exact ho7
        have HF : Hid _ := hfin
        clear hfin ho2 ho3 hb2 hb3 hbx ho7 hg7 hch hb7 HN2
        go_wp2_with fail
        exact ⟨HF.out, by simp [intOf]; omega⟩
      | false =>
        have HN2 : Hid (cntF L (k + 1) = xs) := by show cntF L (k + 1) = xs; rw [HN.out]; rfl
        clear HN
        go_wp2_with fail
        exact ⟨⟨k + 1, q, d, by omega, by go_num, by rw [HN2.out], by rw [HN2.out]; exact ho2, hb2⟩, by simp [intOf]; omega⟩
    · as_aux_lemma =>
      have hki : ¬ (k : Int) < (n : Int) := by omega
      obtain rfl : k = n := by omega
      have hbw := hb0.trans (hb.mono (Nat.le_of_lt hw1))
      have hGw := hG.below hb
      have hrw := hr1.below hb
      have hxs : ∀ i ∈ cntF L k, i < k := fun i hi => ((cntF_mem L k i).1 hi).1
      have hperm0 : (cntF L k).Perm (cntF L L.length) := by rw [hLn]
      generalize cntF L k = xs at *
      clear hb0 hG hr1
      by_cases hm : xs.length = 0
      · have hx0 : xs = [] := List.length_eq_zero_iff.1 hm
        have hS := sort1_any q xs.length d (.func (.func 38) #[] #[.pointer (some ⟨w.heap.size, 0, none⟩)]) (by omega) wr
        have hfin : ByRow L xs := byRow_of hperm0 (by rw [hx0]; exact List.Pairwise.nil)
        have hrd := ho.rd
        have HM : Hid (xs.length = 0) := hm
        clear hm hx0
        go_wp2_with fail
        refine hS.mono ?_
        rintro e w9 ⟨rfl, hb9⟩
        clear hS
        go_wp2_with fail
        go_ret
        exact ⟨q, d, xs, rfl, hfin, hrd.below hb9, hbw.trans (hb9.mono hbw.size), fun h0 => by have := HM.out; omega⟩
      · have hk0 : 0 < k := by omega
        obtain ⟨blk, rfl⟩ : ∃ blk, q = some ⟨blk, 0, none⟩ := by
          rcases ho.2 with ⟨_, h2⟩ | ⟨g', cap, cur, hv, _⟩
          · exact absurd h2 hm
          · injection hv with e1 e2 e3
            exact ⟨g', e1⟩
        have hblk := (ho.lt rfl).1
        have hS := @sortO_any k ⟨⟨0, hk0⟩⟩ wr w.heap.size p c L hGw hrw w1.heap.size blk xs.length d xs ho hxs (by omega) (by first | omega | (simp only at hblk; omega)) (fun a ha => by have := hpl hk0 a ha; first | omega | (simp only at hblk; omega))
        clear hm
        go_wp2_with fail
        refine hS.mono ?_
        rintro e w9 ⟨rfl, ys, hyp, hys, hrd, hch⟩
        clear hS
        have hyl : ys.length = xs.length := hyp.length_eq
        have hB := byRow_of (hyp.trans hperm0) hys
        have hbz := hbw.trans (hch.below hbw.size fun j e => by subst e; first | omega | (simp only at hblk; omega))
        have HY : Hid (ys.length = xs.length) := hyl
        clear hyl hch hyp hys
        go_wp2_with fail
        go_ret
        exact ⟨some ⟨blk, 0, none⟩, d, ys, by rw [HY.out]; rfl, hB, by rw [HY.out]; exact hrd, hbz, fun _ a ha => by cases ha; first | omega | (simp only at hblk ⊢; omega)⟩

end Go.Proofs.Ytmfmjoibofadlaa.M
