/-
  Own text: the walk of the law DiskLasts.
-/
import Derived.Test.YtcgpdaalehgjdaaDIx
namespace Go.Proofs.Ytcgpdaalehgjdaa.M
open Go.ChangeShapes Go.WideShapes Go.ChangeAt Go.RowKit

theorem rows1 (w : World) (o1 : Obj) : (w.alloc o1).heap[w.heap.size]? = some o1 := heap_alloc_new _ _

set_option maxRecDepth 20000 in
set_option maxHeartbeats 4000000 in
theorem walk_DiskLasts (w : World) (p : Option Addr) (n c : Nat) (ls : List Dv) (hl : RdQ w p n c ls) (q : Option Addr) (m0 d0 : Nat) (ks : List Dv) (hk : RdQ w q m0 d0 ks) (i : Int) (_hi : (Lit.int .i64 i).wf = true) (kq : Option Addr) (kl kc : Nat) (keep : List Int) (hkp : Rd .i64 w kq kl kc keep) (_hkb : ∀ x ∈ keep, (Lit.int .i64 x).wf = true) :
    Calls Try.prog 4 #[.slice p n c, .slice q m0 d0, .int .i64 i, .slice kq kl kc] w fun e w' => e = .returned (.bool true) ∧ Below w.heap.size w w' := by
  have hAw := fun W => awake_any W
  have hb0 : Below w.heap.size w (w.alloc (.cells #[.slice p n c, .slice q m0 d0] 22)) := (Below.refl _ _).alloc (Nat.le_refl _) _
  have r0 := rows1 w (.cells #[.slice p n c, .slice q m0 d0] 22)
  have hS := short_any (w.alloc (.cells #[.slice p n c, .slice q m0 d0] 22)) _ 2 2 _ (RdQQ.two (cell_row r0 rfl) (cell_row r0 rfl) (hl.below hb0) (hk.below hb0)) (by decide)
  have hl0 := hl.below hb0
  have hk0 := hk.below hb0
  have hkp0 := hkp.below' hb0
  obtain ⟨I, hI, hmod⟩ := mod8 i
  clear r0 hl hk hkp
  generalize hW0 : (w.alloc (.cells #[.slice p n c, .slice q m0 d0] 22)) = w0 at *
  go_enter Try.func4, Try.ntmps4
  go_wp2_with fail
  refine hS.mono ?_
  rintro e w1 ⟨⟨bb, rfl, hbb⟩, hb1⟩
  have hbt := hb0.trans (hb1.mono hb0.size)
  clear hS
  cases bb with
  | false =>
    go_wp2_with fail
    refine (hAw _).mono ?_
    rintro e w2 ⟨rfl, hb2⟩
    go_wp2_with fail
    go_ret
    exact ⟨rfl, hbt.trans (hb2.mono hbt.size)⟩
  | true =>
    obtain ⟨⟨s1, s2, s3⟩, t1, t2, t3⟩ := short_two (hbb rfl)
    have hlen := hl0.len
    have hken := hk0.len
    rw [hlen] at s1 s3
    rw [hken] at t1 t3
    clear hbb
    by_cases hkl : 100 < kl
    · have hkli : (100 : Int) < (kl : Int) := by omega
      go_wp2_with fail
      refine (hAw _).mono ?_
      rintro e w2 ⟨rfl, hb2⟩
      go_wp2_with fail
      go_ret
      exact ⟨rfl, hbt.trans (hb2.mono hbt.size)⟩
    have hkli : ¬ (100 : Int) < (kl : Int) := by omega
    have hl1 := hl0.below hb1
    have hk1 := hk0.below hb1
    have hkp1 := hkp0.below' hb1
    have hM := made_law 1 w1 p n c ls hl1 s1 s2
    have hok := playN_ok hl1 s2 (pd0_ok (r := 2097152) (by decide) (by decide)) n (Nat.le_refl _)
    clear hl0 hk0 hkp0 hl1 s1 s2 hlen
    generalize bytesN ls n = S at *
    generalize playN (pd0 2097152) ls n = m at *
    go_wp2_with fail
    refine hM.mono ?_
    rintro e w2 ⟨rfl, ⟨own, d, hD, ho⟩, hb2⟩
    have hSt := Start_ok w2 _ own 1 _ d m hD hok.r0
    clear hM
    go_wp2_with fail
    refine hSt.mono ?_
    rintro e w3 ⟨rfl, hD3, hc3⟩
    have hok3 : ({ m with down := false } : PD).ok (0 + S) := ⟨hok.r0, hok.r1, hok.told, hok.lasts, hok.keep, hok.left⟩
    have hb3 := hb2.trans (hc3.below hb2.size (fun k e => Nat.le_of_eq e.symm))
    have hSy := Sync_ok w3 _ own 1 _ _ _ hD3 hok3.r0 rfl (hok3.few (by omega)) I hI
    have hok4 := hok3.syncAt (i := I) hI
    have hLS := fun h => LP.sync (m := { m with down := false }) (i := I) h
    have hdS := fun h => act_down (m := { m with down := false }) (n := 1) (X := fun _ => upP m.f I ⟨(m.f I).told, (m.f I).told, false⟩) h
    change ((({ m with down := false } : PD).gone 1 = false) → (({ m with down := false } : PD).syncAt I).down = false) at hdS
    clear hSt hD hok hb2 hc3
    generalize ({ d with down := false } : Dk) = d3 at *
    have gg3 := hD3.dc.lt
    change Calls Try.prog 24 #[.pointer (some ⟨w1.heap.size, 0, none⟩), .int .i64 I] w3 fun e w' => e = .returned (.int .i64 (goneE (({ m with down := false } : PD).gone 1))) ∧ ∃ own2 d2, DA w' w1.heap.size own2 1 w1.heap.size d2 (({ m with down := false } : PD).syncAt I) ∧ (∀ k, k < w3.heap.size → own2 k = own k) ∧ Ch (fun k => k = w1.heap.size ∨ own k = mark 1 I) w3 w' at hSy
    generalize (({ m with down := false } : PD).gone 1) = gn at *
    go_wp2_with fail
    refine hSy.mono ?_
    rintro e w4 ⟨rfl, hAf⟩
    obtain ⟨own4, d4, hD4, ho4, hc4⟩ := After.file hI hAf
    have hb4 := hb3.trans (hc4.mine_below hb3.size (Nat.le_refl _) ho)
    have ho4' : ∀ k, k < w1.heap.size → own4 k = 0 := fun k hk => (ho4 k (by have := hb3.size; omega)).trans (ho k hk)
    clear hSy hAf hc4 ho4 hD3
    cases gn with
    | true =>
      have hg0 : (goneE true != 0) = true := rfl
      clear hLS hdS
      go_wp2_with fail
      refine (hAw _).mono ?_
      rintro e w5 ⟨rfl, hb5⟩
      have hbE := (hbt.trans (hb4.mono hbt.size)).trans (hb5.mono (hbt.trans (hb4.mono hbt.size)).size)
      go_wp2_with fail
      go_ret
      exact ⟨rfl, hbE⟩
    | false =>
      have hg0 : (goneE false != 0) = false := rfl
      have hfI := hLS rfl
      have hdn := hdS rfl
      clear hLS hdS
      have hRd := Read_ok w4 _ own4 1 _ d4 _ hD4 hok4.r0 hdn (hok4.few (by omega)) I hI
      rw [hfI] at hRd
      dsimp only at hRd
      have hLP : LP ((({ m with down := false } : PD).syncAt I).f I) (m.f I).told := by rw [hfI]; exact ⟨rfl, List.prefix_refl _, List.prefix_refl _⟩
      generalize (({ m with down := false } : PD).syncAt I) = m4 at *
      generalize (m.f I).told = was at *
      go_wp2_with fail
      refine hRd.mono ?_
      rintro e w5 ⟨p5, c5, rfl, hr5, hb5, hf5⟩
      have hB5 := hb4.trans (hb5.mono hb4.size)
      have hD5 := hD4.below hb5
      have hz4 := hD4.dc.lt
      have hown4 := hD4.fr
      clear hRd hD4 hb5
      generalize was.length = wl at *
      go_wp2_with fail
      go_loopw [46] (fun ix wr => ∃ (k : Nat) (own : Nat → Nat) (d : Dk), k ≤ m0 ∧ ix = .int .i64 k ∧ DA wr w1.heap.size own 1 w1.heap.size d (playN m4 ks k) ∧ LP ((playN m4 ks k).f I) was ∧ (∀ j, j < w1.heap.size → own j = 0) ∧ Rd .u8 wr p5 wl c5 was ∧ (∀ x, p5 = some x → 0 < wl → x.block ≠ w1.heap.size ∧ own x.block = 0) ∧ Below w1.heap.size w1 wr) (fun ix _ => m0 - (intOf ix).toNat)
      case atStart => exact ⟨0, own4, d4, Nat.zero_le _, rfl, hD5, hLP, ho4', hr5, fun x e h0 => ⟨by have := hf5 x e h0; omega, hown4 _ (hf5 x e h0)⟩, hB5⟩
      case round =>
        clear hD5 hLP ho4' hr5 hf5 hown4 hB5
        obtain ⟨k, own6, d6, hkm, rfl, hD6, hL6, ho6, hr6, hf6, hB6⟩ := hrel
        have hok6 := playN_ok hk1 t2 hok4 k hkm
        have hby := bytesN_le t2 k (by rw [hken]; exact hkm)
        by_cases hlt : k < m0
        · have hki : (k : Int) < (m0 : Int) := by omega
          obtain ⟨b, o, rfl, hc⟩ := hk1.cells (by omega)
          have hck := hc k hlt
          have hblt := World.block_lt_of_cell? _ _ hck.c0
          have hck2 := hck.below hB6 hblt
          have hrd0 := hk1.rd k hlt
          have hrd : Dv.rd wr (ks.getD k .z0) := ⟨hrd0.b.low hB6 (Nat.le_refl _), hrd0.k.low hB6 (Nat.le_refl _), hrd0.n, hrd0.y⟩
          have hsm := t2 k (by rw [hken]; exact hlt)
          have HS : Hid (playN m4 ks (k + 1) = ((playN m4 ks k).step (ks.getD k .z0).q).1) := rfl
          have HL := fun hq => LP.step hI hL6 (ks.getD k .z0).q hq
          clear hc hck hk1
          generalize ks.getD k .z0 = x at *
          obtain ⟨op, xi, nn, bq, bl, bc, xq, xl, xc, xb, xk⟩ := x
          obtain ⟨c0, c1, c2, c3, c4⟩ := hck2
          obtain ⟨rb, rk, _, _⟩ := hrd
          dsimp only [Dv.q] at *
          have hbD : Below wr.heap.size wr (wr.alloc (.cells #[.int .i64 op, .int .i64 xi, .int .i64 nn, .slice bq bl bc, .slice xq xl xc] 35)) := (Below.refl _ _).alloc (Nat.le_refl _) _
          have hgs := hB6.size
          have hD := does_any _ w1.heap.size own6 1 w1.heap.size d6 _ _ (hD6.below hbD) hok6 (by omega) (Nat.le_trans hgs hbD.size) op xi nn bq bl bc xq xl xc xb xk (rb.below' hbD) (rk.below' hbD)
            (fun x e h0 => Nat.ne_of_lt (hrd0.b.blk e h0)) (fun x e h0 => Nat.ne_of_lt (hrd0.k.blk e h0)) hsm.1 hsm.2
          have hrw : ∀ x, p5 = some x → 0 < wl → x.block < wr.heap.size := fun x e h0 => hr6.blk e h0
          have hr7 := hr6.below' hbD
          clear rb rk hD6 hrd0 hr6
          generalize hpl : playN m4 ks k = m6 at *
          cases q4 : (wrap64 ((IntKind.u64.wrap op).tmod 9) == 4) with
          | true =>
            by_cases qi : xi = (I : Int)
            · have qib : (xi == (I : Int)) = true := by simpa using qi
              clear hD HL hL6
              have hB7 := hB6.trans (hbD.mono hB6.size)
              subst qi
              go_wp2_with fail
              refine (hAw _).mono ?_
              rintro e w5 ⟨rfl, hb5⟩
              have hbE := (hbt.trans (hB7.mono hbt.size)).trans (hb5.mono (hbt.trans (hB7.mono hbt.size)).size)
              go_wp2_with fail
              go_ret
              exact ⟨rfl, hbE⟩
            · have qib : (xi == (I : Int)) = false := by simpa using qi
              have HL2 := HL (fun h => qi h.2)
              clear HL
              go_wp2_with fail
              refine hD.mono ?_
              rintro e w7 ⟨rfl, hAf⟩
              obtain ⟨own7, d7, hD7, ho7, hc7⟩ := hAf.before hbD
              have hB7 := hB6.trans (hc7.mine_below hgs (Nat.le_refl _) ho6)
              have hr8 : Rd .u8 w7 p5 wl c5 was := by
                obtain ⟨own', d', _, _, hcc⟩ := hAf
                exact hr7.ch0 hcc fun x e h0 => not_mine (hf6 x e h0).1 (hf6 x e h0).2
              have hf7 : ∀ x, p5 = some x → 0 < wl → x.block ≠ w1.heap.size ∧ own7 x.block = 0 := fun x e h0 => ⟨(hf6 x e h0).1, (ho7 _ (hrw x e h0)).trans (hf6 x e h0).2⟩
              clear hD hAf
              go_wp2_with fail
              go_roundw
              case rel => exact ⟨k + 1, own7, d7, by omega, by go_num, by rw [HS.out]; exact hD7, by rw [HS.out]; exact HL2, fun j hj => (ho7 j (by omega)).trans (ho6 j hj), hr8, hf7, hB7⟩
              case measure => simp [intOf]; omega
          | false =>
            have HL2 := HL (fun h => by rw [q4] at h; cases h.1)
            clear HL
            go_wp2_with fail
            refine hD.mono ?_
            rintro e w7 ⟨rfl, hAf⟩
            obtain ⟨own7, d7, hD7, ho7, hc7⟩ := hAf.before hbD
            have hB7 := hB6.trans (hc7.mine_below hgs (Nat.le_refl _) ho6)
            have hr8 : Rd .u8 w7 p5 wl c5 was := by
              obtain ⟨own', d', _, _, hcc⟩ := hAf
              exact hr7.ch0 hcc fun x e h0 => not_mine (hf6 x e h0).1 (hf6 x e h0).2
            have hf7 : ∀ x, p5 = some x → 0 < wl → x.block ≠ w1.heap.size ∧ own7 x.block = 0 := fun x e h0 => ⟨(hf6 x e h0).1, (ho7 _ (hrw x e h0)).trans (hf6 x e h0).2⟩
            clear hD hAf
            go_wp2_with fail
            go_roundw
            case rel => exact ⟨k + 1, own7, d7, by omega, by go_num, by rw [HS.out]; exact hD7, by rw [HS.out]; exact HL2, fun j hj => (ho7 j (by omega)).trans (ho6 j hj), hr8, hf7, hB7⟩
            case measure => simp [intOf]; omega
        · obtain rfl : k = m0 := by omega
          have hSt := Start_ok wr _ own6 1 _ d6 _ hD6 hok6.r0
          generalize playN m4 ks k = m6 at *
          clear hD6
          go_wp2_with fail
          refine hSt.mono ?_
          rintro e w7 ⟨rfl, hD7, hc7⟩
          have hr7 := hr6.ch0 hc7 (fun x e h0 => (hf6 x e h0).1)
          have hB7 := hB6.trans (hc7.below hB6.size (fun k e => Nat.le_of_eq e.symm))
          have hok7 : ({ m6 with down := false } : PD).ok _ := ⟨hok6.r0, hok6.r1, hok6.told, hok6.lasts, hok6.keep, hok6.left⟩
          have hCr := Crash_gen w7 _ own6 1 _ _ _ hD7 hok7.r0 rfl (hok7.few (by omega)) kq kl kc keep (hkp1.low hB7 (Nat.le_refl _)) (fun x e h0 => Nat.ne_of_lt (hkp1.blk e h0)) (by omega)
          clear hSt hr6 hc7
          go_wp2_with fail
          refine hCr.mono ?_
          rintro e w8 ⟨rfl, d8, hD8, hc8⟩
          have hr8 := hr7.ch0 hc8 (fun x e h0 => (hf6 x e h0).1)
          have hB8 := hB7.trans (hc8.below hB7.size (fun k e => Nat.le_of_eq e.symm))
          have hok8 := hok7.fall keep
          have hL8 := LP.fall (m := { m6 with down := false }) hI hL6 keep
          have hFl := files_any w8 _ own6 1 _ _ _ _ hD8 hok8 (by omega)
          clear hCr hr7 hc8 hD7 hD8
          generalize (({ m6 with down := false } : PD).fall keep) = m8 at *
          go_wp2_with fail
          refine hFl.mono ?_
          rintro e w9 ⟨F, rfl, hR9, _, hc9⟩
          have hr9 := hr8.ch0 hc9 (fun x e h0 => (hf6 x e h0).1)
          have hB9 := hB8.trans (hc9.below hB8.size (fun k e => Nat.le_of_eq e.symm))
          have hHP := hasp_some _ p5 _ _ wl c5 _ _ w9 (hR9 I hI).1 hr9
          have hpre : was <+: (m8.f I).told := hL8.2.1.trans hL8.2.2
          have hix := fun W => index8 F hI W
          clear hFl hr8 hc9 hR9 hr9
          go_wp2_with fail
          refine hHP.mono ?_
          rintro e wa ⟨⟨b, rfl, hb⟩, rfl⟩
          obtain rfl := hb hpre
          go_wp2_with fail
          refine (hAw _).mono ?_
          rintro e wb ⟨rfl, hbb⟩
          have hbE := (hbt.trans (hB9.mono hbt.size)).trans (hbb.mono (hbt.trans (hB9.mono hbt.size)).size)
          go_wp2_with fail
          go_ret
          exact ⟨rfl, hbE⟩

end Go.Proofs.Ytcgpdaalehgjdaa.M
