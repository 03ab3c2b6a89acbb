/-
  Own text: the walk of the law DiskApart.
-/
import Derived.Test.YtcgpdaalehgjdaaDEq
namespace Go.Proofs.Ytcgpdaalehgjdaa.M
open Go.ChangeShapes Go.WideShapes Go.ChangeAt Go.RowKit

set_option maxRecDepth 20000 in
set_option maxHeartbeats 4000000 in
theorem walk_DiskApart (w : World) (p : Option Addr) (n c : Nat) (ls : List Dv) (hl : RdQ w p n c ls) (op i nn : Int) (bq : Option Addr) (bl bc : Nat) (kq : Option Addr) (kl kc : Nat) (xb xk : List Int) (hx : (⟨op, i, nn, bq, bl, bc, kq, kl, kc, xb, xk⟩ : Dv).rd w) :
    Calls Try.prog 6 #[.slice p n c, .agg #[.int .i64 op, .int .i64 i, .int .i64 nn, .slice bq bl bc, .slice kq kl kc]] w fun e w' => e = .returned (.bool true) ∧ Below w.heap.size w w' := by
  have hAw := fun W => awake_any W
  have hb0 : Below w.heap.size w (((w.alloc (.cells #[.int .i64 op, .int .i64 i, .int .i64 nn, .slice bq bl bc, .slice kq kl kc] 35)).alloc (.cells #[.int .i64 op, .int .i64 i, .int .i64 nn, .slice bq bl bc, .slice kq kl kc] 35)).alloc (.cells #[.slice p n c, .slice (some ⟨w.heap.size + 1, 0, none⟩) 1 1] 22)) := (((Below.refl _ _).alloc (Nat.le_refl _) _).alloc (by simp) _).alloc (by simp; omega) _
  obtain ⟨r0, r1, r2⟩ := rows3 w (.cells #[.int .i64 op, .int .i64 i, .int .i64 nn, .slice bq bl bc, .slice kq kl kc] 35) (.cells #[.int .i64 op, .int .i64 i, .int .i64 nn, .slice bq bl bc, .slice kq kl kc] 35) (.cells #[.slice p n c, .slice (some ⟨w.heap.size + 1, 0, none⟩) 1 1] 22)
  have x0 : (⟨op, i, nn, bq, bl, bc, kq, kl, kc, xb, xk⟩ : Dv).at (((w.alloc (.cells #[.int .i64 op, .int .i64 i, .int .i64 nn, .slice bq bl bc, .slice kq kl kc] 35)).alloc (.cells #[.int .i64 op, .int .i64 i, .int .i64 nn, .slice bq bl bc, .slice kq kl kc] 35)).alloc (.cells #[.slice p n c, .slice (some ⟨w.heap.size + 1, 0, none⟩) 1 1] 22)) w.heap.size 0 := ⟨cell_row r0 rfl, cell_row r0 rfl, cell_row r0 rfl, cell_row r0 rfl, cell_row r0 rfl⟩
  have hS := short_any (((w.alloc (.cells #[.int .i64 op, .int .i64 i, .int .i64 nn, .slice bq bl bc, .slice kq kl kc] 35)).alloc (.cells #[.int .i64 op, .int .i64 i, .int .i64 nn, .slice bq bl bc, .slice kq kl kc] 35)).alloc (.cells #[.slice p n c, .slice (some ⟨w.heap.size + 1, 0, none⟩) 1 1] 22)) _ 2 2 _ (RdQQ.two (cell_row r2 rfl) (cell_row r2 rfl) (hl.below hb0) (RdQ.one (x := (⟨op, i, nn, bq, bl, bc, kq, kl, kc, xb, xk⟩ : Dv)) ⟨cell_row r1 rfl, cell_row r1 rfl, cell_row r1 rfl, cell_row r1 rfl, cell_row r1 rfl⟩ (hx.below hb0))) (by decide)
  have hl0 := hl.below hb0
  have hx0 := hx.below hb0
  have hwl : w.heap.size < (((w.alloc (.cells #[.int .i64 op, .int .i64 i, .int .i64 nn, .slice bq bl bc, .slice kq kl kc] 35)).alloc (.cells #[.int .i64 op, .int .i64 i, .int .i64 nn, .slice bq bl bc, .slice kq kl kc] 35)).alloc (.cells #[.slice p n c, .slice (some ⟨w.heap.size + 1, 0, none⟩) 1 1] 22)).heap.size := World.block_lt_of_cell? _ _ x0.c0
  have y0 := x0
  obtain ⟨c0, c1, c2, c3, c4⟩ := y0
  dsimp only at c0 c1 c2 c3 c4
  clear r0 r1 r2 hl hx
  generalize hW0 : (((w.alloc (.cells #[.int .i64 op, .int .i64 i, .int .i64 nn, .slice bq bl bc, .slice kq kl kc] 35)).alloc (.cells #[.int .i64 op, .int .i64 i, .int .i64 nn, .slice bq bl bc, .slice kq kl kc] 35)).alloc (.cells #[.slice p n c, .slice (some ⟨w.heap.size + 1, 0, none⟩) 1 1] 22)) = w0 at *
  go_enter Try.func6, Try.ntmps6
  go_wp2_with fail
  refine hS.mono ?_
  rintro e w1 ⟨⟨bb, rfl, hbb⟩, hb1⟩
  have hbt := hb0.trans (hb1.mono hb0.size)
  clear c0 c1 c2 c3 c4 hS
  cases bb with
  | false =>
    go_wp2_with fail
    refine (hAw _).mono ?_
    rintro e w2 ⟨rfl, hb2⟩
    go_wp2_with fail
    go_ret
    exact ⟨rfl, hbt.trans (hb2.mono hbt.size)⟩
  | true =>
    obtain ⟨⟨s1, s2, s3⟩, _, t2, _⟩ := short_two (hbb rfl)
    have hlen := hl0.len
    rw [hlen] at s1 s3
    have t3 := t2 0 (by simp)
    change bl ≤ 16384 ∧ kl ≤ 16384 at t3
    clear hbb t2
    have hl1 := hl0.below hb1
    have hx1 := hx0.below hb1
    have hM := made_law 1 w1 p n c ls hl1 s1 s2
    have hok := playN_ok hl1 s2 (pd0_ok (r := 2097152) (by decide) (by decide)) n (Nat.le_refl _)
    have y1 := x0.below hb1 hwl
    have hw1 : w.heap.size < w1.heap.size := Nat.lt_of_lt_of_le hwl hb1.size
    clear hl0 hx0 hl1 s1 s2 x0 hlen
    generalize bytesN ls n = S at *
    generalize playN (pd0 2097152) ls n = m at *
    go_wp2_with fail
    refine hM.mono ?_
    rintro e w2 ⟨rfl, ⟨own, d, hD, ho⟩, hb2⟩
    have hSt := Start_ok w2 _ own 1 _ d m hD hok.r0
    clear hM
    go_wp2_with fail
    refine hSt.mono ?_
    rintro e w3 ⟨rfl, hD3, hc3⟩
    have hok3 : ({ m with down := false } : PD).ok (0 + S) := ⟨hok.r0, hok.r1, hok.told, hok.lasts, hok.keep, hok.left⟩
    have hb3 := hb2.trans (hc3.below hb2.size (fun k e => Nat.le_of_eq e.symm))
    have hF := files_lit w3 _ own 1 _ _ _ _ hD3 hok3 (by omega)
    clear hSt hD hok hb2 hc3
    generalize ({ d with down := false } : Dk) = d3 at *
    dsimp only at hF
    go_wp2_with fail
    refine hF.mono ?_
    rintro e w4 ⟨F, rfl, hR4, hD4, hc4⟩
    have hb4 := hb3.trans (hc4.below hb3.size (fun k e => Nat.le_of_eq e.symm))
    have hb5 : Below w4.heap.size w4 (w4.alloc (.cells #[.slice (F 0).p (F 0).n (F 0).c, .slice (F 1).p (F 1).n (F 1).c, .slice (F 2).p (F 2).n (F 2).c, .slice (F 3).p (F 3).n (F 3).c, .slice (F 4).p (F 4).n (F 4).c, .slice (F 5).p (F 5).n (F 5).c, .slice (F 6).p (F 6).n (F 6).c, .slice (F 7).p (F 7).n (F 7).c] 50)) := (Below.refl _ _).alloc (Nat.le_refl _) _
    have hE5 := Ei.new w4 F
    have hD5 := hD4.below hb5
    have hR5 := hR4.below hb5
    have hB5 := hb4.trans (hb5.mono hb4.size)
    have g34 := hc4.size
    have g13 := hb3.size
    have gg3 := hD3.dc.lt
    have hown4 : ∀ k, w3.heap.size ≤ k → own k = 0 := hD3.fr
    have y5 := y1.below hB5 hw1
    have hx5 : (⟨op, i, nn, bq, bl, bc, kq, kl, kc, xb, xk⟩ : Dv).rd (w4.alloc (.cells #[.slice (F 0).p (F 0).n (F 0).c, .slice (F 1).p (F 1).n (F 1).c, .slice (F 2).p (F 2).n (F 2).c, .slice (F 3).p (F 3).n (F 3).c, .slice (F 4).p (F 4).n (F 4).c, .slice (F 5).p (F 5).n (F 5).c, .slice (F 6).p (F 6).n (F 6).c, .slice (F 7).p (F 7).n (F 7).c] 50)) := ⟨hx1.b.low hB5 (Nat.le_refl _), hx1.k.low hB5 (Nat.le_refl _), hx1.n, hx1.y⟩
    have hDo := does_any (w4.alloc (.cells #[.slice (F 0).p (F 0).n (F 0).c, .slice (F 1).p (F 1).n (F 1).c, .slice (F 2).p (F 2).n (F 2).c, .slice (F 3).p (F 3).n (F 3).c, .slice (F 4).p (F 4).n (F 4).c, .slice (F 5).p (F 5).n (F 5).c, .slice (F 6).p (F 6).n (F 6).c, .slice (F 7).p (F 7).n (F 7).c] 50)) _ own 1 _ _ _ _ hD5 hok3 (by omega) hB5.size op i nn bq bl bc kq kl kc xb xk hx5.b hx5.k (fun z e h0 => Nat.ne_of_lt (hx1.b.blk e h0)) (fun z e h0 => Nat.ne_of_lt (hx1.k.blk e h0)) t3.1 t3.2
    have hg5 : (w4.alloc (.cells #[.slice (F 0).p (F 0).n (F 0).c, .slice (F 1).p (F 1).n (F 1).c, .slice (F 2).p (F 2).n (F 2).c, .slice (F 3).p (F 3).n (F 3).c, .slice (F 4).p (F 4).n (F 4).c, .slice (F 5).p (F 5).n (F 5).c, .slice (F 6).p (F 6).n (F 6).c, .slice (F 7).p (F 7).n (F 7).c] 50)).heap.size = w4.heap.size + 1 := by simp
    have hok6 := hok3.step ⟨op, i, nn, xb, xk⟩ (by show xk.length ≤ _; rw [show xk.length = kl from hx1.k.len]; exact t3.2) hx1.n
    have hap := fun h1 h2 (j : Nat) => step_apart (m := { m with down := false }) (k := ⟨op, i, nn, xb, xk⟩) h1 h2 (j := j)
    dsimp only at hap hok6
    have hxl : xb.length = bl := hx1.b.len
    rw [hxl] at hok6
    obtain ⟨c0, c1, c2, c3, c4⟩ := y5
    dsimp only at c0 c1 c2 c3 c4
    clear hF hD3 hD4 hR4 hx5 hD5 hxl
    go_wp2_with fail
    generalize (w4.alloc (.cells #[.slice (F 0).p (F 0).n (F 0).c, .slice (F 1).p (F 1).n (F 1).c, .slice (F 2).p (F 2).n (F 2).c, .slice (F 3).p (F 3).n (F 3).c, .slice (F 4).p (F 4).n (F 4).c, .slice (F 5).p (F 5).n (F 5).c, .slice (F 6).p (F 6).n (F 6).c, .slice (F 7).p (F 7).n (F 7).c] 50)) = w5 at *
    refine hDo.mono ?_
    rintro e w6 ⟨rfl, own2, d2, hD6, ho6, hc6⟩
    have hB6 := hB5.trans (hc6.mine_below hB5.size (Nat.le_refl _) ho)
    have hE6 := hE5.ch hc6 (not_mine (by omega) (hown4 _ (by omega)))
    have hR6 := hR5.ch hc6 (fun k hk _ => not_mine (by omega) (hown4 _ hk))
    have hown6 : ∀ k, w3.heap.size ≤ k → k < w5.heap.size → own2 k = 0 := fun k hk h => (ho6 k h).trans (hown4 k hk)
    have y6 := y1.below hB6 hw1
    have ho6' : ∀ k, k < w1.heap.size → own2 k = 0 := fun k hk => (ho6 k (by omega)).trans (ho k hk)
    clear hDo hE5 hR5 c0 c1 c2 c3 c4 hc6
    generalize hst : ({ m with down := false } : PD).step ⟨op, i, nn, xb, xk⟩ = R at *
    obtain ⟨m6, E6⟩ := R
    dsimp only at hD6 hok6 hap
    cases hdn : m6.down with
    | true =>
      have hRb := Read_bad w6 w1.heap.size 0 _ (badE_ne m6.down) (file_bad w6 _ own2 1 _ d2 m6 hD6 hok6.r0 0 (Or.inl hdn))
      rw [hdn] at hRb
      clear hap hE6 hR6 y6
      go_wp2_with fail
      refine hRb.mono ?_
      rintro e w7 ⟨rfl, rfl⟩
      go_wp2_with fail
      refine (hAw _).mono ?_
      rintro e w8 ⟨rfl, hb8⟩
      have hbE := (hbt.trans (hB6.mono hbt.size)).trans (hb8.mono (hbt.trans (hB6.mono hbt.size)).size)
      go_wp2_with fail
      go_ret
      exact ⟨rfl, hbE⟩
    | false =>
      have hRd := Read_ok w6 _ own2 1 _ d2 m6 hD6 hok6.r0 hdn (hok6.few (by omega)) 0 (by decide)
      generalize (m6.f 0).told.length = L0 at *
      cases q50 : (E6 == 50) with
      | true =>
        clear hap hE6 hR6 y6
        go_wp2_with fail
        refine hRd.mono ?_
        rintro e w7 ⟨p7, c7, rfl, _, hb7, _⟩
        have hB7 := hB6.trans (hb7.mono hB6.size)
        go_wp2_with fail
        refine (hAw _).mono ?_
        rintro e w8 ⟨rfl, hb8⟩
        have hbE := (hbt.trans (hB7.mono hbt.size)).trans (hb8.mono (hbt.trans (hB7.mono hbt.size)).size)
        go_wp2_with fail
        go_ret
        exact ⟨rfl, hbE⟩
      | false =>
        have hap2 := hap hdn q50
        go_wp2_with fail
        refine hRd.mono ?_
        rintro e w7 ⟨p7, c7, rfl, _, hb7, _⟩
        have hB7 := hB6.trans (hb7.mono hB6.size)
        have hE7 := hE6.below hb7
        have hR7 := hR6.below hb7
        have hD7 := hD6.below hb7
        have hF7 := files_lit w7 _ own2 1 _ _ _ _ hD7 hok6 (by omega)
        clear hRd hD6 hb7 hE6 hR6 hap
        go_wp2_with fail
        refine hF7.mono ?_
        rintro e w8 ⟨G, rfl, hR8, hD8, hc8⟩
        have hE8 := hE7.ch hc8 (by show ¬ w4.heap.size = w1.heap.size; omega)
        have hQ8 := hR7.ch hc8 (fun k hk _ => by show ¬ k = w1.heap.size; omega)
        have hB8 := hB7.trans (hc8.below hB7.size (fun k e => Nat.le_of_eq e.symm))
        have hb9 : Below w8.heap.size w8 (w8.alloc (.cells #[.slice (G 0).p (G 0).n (G 0).c, .slice (G 1).p (G 1).n (G 1).c, .slice (G 2).p (G 2).n (G 2).c, .slice (G 3).p (G 3).n (G 3).c, .slice (G 4).p (G 4).n (G 4).c, .slice (G 5).p (G 5).n (G 5).c, .slice (G 6).p (G 6).n (G 6).c, .slice (G 7).p (G 7).n (G 7).c] 50)) := (Below.refl _ _).alloc (Nat.le_refl _) _
        have hG9 := Ei.new w8 G
        have hE9 := hE8.below hb9
        have hQ9 := hQ8.below hb9
        have hR9 := hR8.below hb9
        have hB9 := hB8.trans (hb9.mono hB8.size)
        have y9 := y1.below hB9 hw1
        have z1 := y9.c1
        dsimp only at z1
        clear hF7 hD7 hD8 hR8 hQ8 hE8 hE7 hR7 y6 y1 y9
        go_wp2_with fail
        generalize (w8.alloc (.cells #[.slice (G 0).p (G 0).n (G 0).c, .slice (G 1).p (G 1).n (G 1).c, .slice (G 2).p (G 2).n (G 2).c, .slice (G 3).p (G 3).n (G 3).c, .slice (G 4).p (G 4).n (G 4).c, .slice (G 5).p (G 5).n (G 5).c, .slice (G 6).p (G 6).n (G 6).c, .slice (G 7).p (G 7).n (G 7).c] 50)) = w9 at *
        go_loopw [42] (fun ix wr => ∃ (k : Nat), k ≤ 8 ∧ ix = .int .i64 k ∧ Below w9.heap.size w9 wr) (fun ix _ => 8 - (intOf ix).toNat)
        case atStart => exact ⟨0, Nat.zero_le _, rfl, Below.refl _ _⟩
        case round =>
          obtain ⟨k, hk, rfl, hbr⟩ := hrel
          by_cases h8 : k < 8
          · have hki : (k : Int) < 8 := by omega
            have u1 := cell_belowB hbr (World.block_lt_of_cell? _ _ z1) z1
            by_cases hik : (k : Int) = i
            · have hne : ((k : Int) != i) = false := by simpa using hik
              clear hap2 hE9 hG9 hQ9 hR9
              go_wp2_with fail
              go_quiet (fail)
              go_wp2_with fail
              go_roundw
              case rel => exact ⟨k + 1, by omega, by go_num, below_drewN hbr _⟩
              case measure => simp [intOf]; omega
            · have hne : ((k : Int) != i) = true := by simpa using hik
              have hG := hG9.below hbr
              have hE := hE9.below hbr
              have e6 := hap2 k hik
              have rG := (hR9.below hbr k h8).1
              have rF := (hQ9.below hbr k h8).1
              try dsimp only at rG rF
              rw [e6] at rG
              have v1 := hG.cells k h8
              have v2 := hE.cells k h8
              clear hap2 hE9 hG9 hQ9 hR9 e6 hG hE
              generalize F k = Fk at *
              generalize G k = Gk at *
              obtain ⟨fp, fn, fc⟩ := Fk
              obtain ⟨gp, gn, gc⟩ := Gk
              dsimp only at *
              have hEq : ∀ t, Calls Try.prog 21 #[.slice gp gn gc, .slice fp fn fc] (wr.drewN t) fun e w' => e = .returned (.bool true) ∧ w' = wr.drewN t := fun t => by
                have hbd := below_drewN (Below.refl wr.heap.size wr) t
                exact equal_same gp fp gn gc fn fc _ _ (rG.below' hbd) (rF.below' hbd)
              clear rG rF
              go_wp2_with fail
              go_quiet ((go_at_call 21; exact Calls.quiet_of_same (hEq _)))
              go_wp2_with fail
              go_roundw
              case rel => exact ⟨k + 1, by omega, by go_num, below_drewN hbr _⟩
              case measure => simp [intOf]; omega
          · obtain rfl : k = 8 := by omega
            clear hap2 hE9 hG9 hQ9 hR9
            have hBr := hB9.trans (hbr.mono hB9.size)
            go_wp2_with fail
            refine (hAw _).mono ?_
            rintro e wa ⟨rfl, hba⟩
            have hbE := (hbt.trans (hBr.mono hbt.size)).trans (hba.mono (hbt.trans (hBr.mono hbt.size)).size)
            go_wp2_with fail
            go_ret
            exact ⟨rfl, hbE⟩

end Go.Proofs.Ytcgpdaalehgjdaa.M
