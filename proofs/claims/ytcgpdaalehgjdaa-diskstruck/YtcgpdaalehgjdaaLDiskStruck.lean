/-
  Own text: the walk of the law DiskStruck.
-/
import Derived.Test.YtcgpdaalehgjdaaDAlike
import Derived.Test.YtcgpdaalehgjdaaOpen
namespace Go.Proofs.Ytcgpdaalehgjdaa.M
open Go.ChangeShapes Go.WideShapes Go.ChangeAt Go.RowKit

set_option maxRecDepth 20000 in
set_option maxHeartbeats 8000000 in
theorem walk_DiskStruck (w : World) (p : Option Addr) (n c : Nat) (ls : List Dv) (hl : RdQ w p n c ls) (i : Int) (_hi : (Lit.int .i64 i).wf = true) (nn : Int) (_hn : (Lit.int .i64 nn).wf = true) (bq : Option Addr) (bl bc : Nat) (xb : List Int) (hxb : Rd .u8 w bq bl bc xb) (hxy0 : ∀ x ∈ xb, (Lit.int .u8 x).wf = true) (kq : Option Addr) (kl kc : Nat) (keep : List Int) (hkp : Rd .i64 w kq kl kc keep) (_hkb : ∀ x ∈ keep, (Lit.int .i64 x).wf = true) :
    Calls Try.prog 7 #[.slice p n c, .int .i64 i, .int .i64 nn, .slice bq bl bc, .slice kq kl kc] w fun e w' => e = .returned (.bool true) ∧ Below w.heap.size w w' := by
  have hAw := fun W => awake_any W
  have hxy : By xb := by_of_wf hxy0
  clear hxy0
  have hb0 : Below w.heap.size w ((w.alloc (.cells #[.int .i64 0, .int .i64 0, .int .i64 0, .slice bq bl bc, .slice none 0 0] 35)).alloc (.cells #[.slice p n c, .slice (some ⟨w.heap.size, 0, none⟩) 1 1] 22)) := ((Below.refl _ _).alloc (Nat.le_refl _) _).alloc (by simp) _
  obtain ⟨r0, r1⟩ := rows2 w (.cells #[.int .i64 0, .int .i64 0, .int .i64 0, .slice bq bl bc, .slice none 0 0] 35) (.cells #[.slice p n c, .slice (some ⟨w.heap.size, 0, none⟩) 1 1] 22)
  have hX : (⟨0, 0, 0, bq, bl, bc, none, 0, 0, xb, []⟩ : Dv).rd ((w.alloc (.cells #[.int .i64 0, .int .i64 0, .int .i64 0, .slice bq bl bc, .slice none 0 0] 35)).alloc (.cells #[.slice p n c, .slice (some ⟨w.heap.size, 0, none⟩) 1 1] 22)) := ⟨hxb.below' hb0, Rd.empty _ _ _ _ (fun _ => rfl), by show (0 : Int) ≤ _; decide, hxy⟩
  have hS := short_any ((w.alloc (.cells #[.int .i64 0, .int .i64 0, .int .i64 0, .slice bq bl bc, .slice none 0 0] 35)).alloc (.cells #[.slice p n c, .slice (some ⟨w.heap.size, 0, none⟩) 1 1] 22)) _ 2 2 _ (RdQQ.two (cell_row r1 rfl) (cell_row r1 rfl) (hl.below hb0) (RdQ.one (x := (⟨0, 0, 0, bq, bl, bc, none, 0, 0, xb, []⟩ : Dv)) ⟨cell_row r0 rfl, cell_row r0 rfl, cell_row r0 rfl, cell_row r0 rfl, cell_row r0 rfl⟩ hX)) (by decide)
  have hl0 := hl.below hb0
  have hkp0 := hkp.below' hb0
  have hxb0 := hxb.below' hb0
  obtain ⟨I, hI, hmod⟩ := mod8 i
  clear r0 r1 hl hkp hxb hX
  generalize hW0 : ((w.alloc (.cells #[.int .i64 0, .int .i64 0, .int .i64 0, .slice bq bl bc, .slice none 0 0] 35)).alloc (.cells #[.slice p n c, .slice (some ⟨w.heap.size, 0, none⟩) 1 1] 22)) = w0 at *
  go_enter Try.func7, Try.ntmps7
  go_wp2_with fail
  refine hS.mono ?_
  rintro e w1 ⟨⟨bb, rfl, hbb⟩, hb1⟩
  have hbt := hb0.trans (hb1.mono hb0.size)
  clear hS
  cases bb with
  | false =>
    go_wp2_with fail
    refine (hAw _).mono ?_
    rintro e w2 ⟨rfl, hb2⟩
    go_wp2_with fail
    go_ret
    exact ⟨rfl, hbt.trans (hb2.mono hbt.size)⟩
  | true =>
    obtain ⟨⟨s1, s2, s3⟩, _, t2, _⟩ := short_two (hbb rfl)
    have hlen := hl0.len
    rw [hlen] at s1 s3
    have t3 := (t2 0 (by simp)).1
    change bl ≤ 16384 at t3
    clear hbb t2
    by_cases hkl : 100 < kl
    · have hkli : (100 : Int) < (kl : Int) := by omega
      go_wp2_with fail
      refine (hAw _).mono ?_
      rintro e w2 ⟨rfl, hb2⟩
      go_wp2_with fail
      go_ret
      exact ⟨rfl, hbt.trans (hb2.mono hbt.size)⟩
    have hkli : ¬ (100 : Int) < (kl : Int) := by omega
    have hl1 := hl0.below hb1
    have hkp1 := hkp0.below' hb1
    have hxb1 := hxb0.below' hb1
    have hok := playN_ok hl1 s2 (pd0_ok (r := 2097152) (by decide) (by decide)) n (Nat.le_refl _)
    obtain ⟨N, hN1, hN2, hNe⟩ := modN nn bl t3
    have hM : ∀ t, Calls Try.prog 22 #[.slice p n c] (w1.drewN t) fun e w' => e = .returned (.pointer (some ⟨w1.heap.size, 0, none⟩)) ∧ (∃ own d, DA w' w1.heap.size own 1 w1.heap.size d (playN (pd0 2097152) ls n) ∧ ∀ k, k < w1.heap.size → own k = 0) ∧ Below w1.heap.size w1 w' := fun t => by
      have hbd := below_drewN (Below.refl w1.heap.size w1) t
      refine (made_law 1 (w1.drewN t) p n c ls (hl1.below hbd) s1 s2).mono ?_
      rintro e w' ⟨h1, h2, h3⟩
      exact ⟨h1, h2, hbd.trans (h3.mono (Nat.le_refl _))⟩
    clear hl0 hkp0 hxb0 hl1 s1 s2 hlen
    have hroom : (playN (pd0 2097152) ls n).room = 2097152 := playN_room _ _ _
    generalize bytesN ls n = S at *
    generalize playN (pd0 2097152) ls n = m at *
    go_wp2_with fail
    go_quiet (fail)
    rw [hmod]
    go_wp2_with fail
    refine (hM _).mono ?_
    rintro e w2 ⟨rfl, ⟨own, d, hD, ho⟩, hb2⟩
    have hSt := Start_ok w2 _ own 1 _ d m hD hok.r0
    clear hM
    go_wp2_with fail
    refine hSt.mono ?_
    rintro e w3 ⟨rfl, hD3, hc3⟩
    have hok3 : ({ m with down := false } : PD).ok (0 + S) := ⟨hok.r0, hok.r1, hok.told, hok.lasts, hok.keep, hok.left⟩
    have hb3 := hb2.trans (hc3.below hb2.size (fun k e => Nat.le_of_eq e.symm))
    have hdn : ({ m with down := false } : PD).down = false := rfl
    have hrm : ({ m with down := false } : PD).room = 2097152 := hroom
    clear hSt hD hok hb2 hc3
    generalize ({ d with down := false } : Dk) = d3 at *
    generalize ({ m with down := false } : PD) = m3 at *
    have gg3 := hD3.dc.lt
    have g13 := hb3.size
    have hC4 := Clone_any w3 _ own 1 2 _ d3 m3 _ hD3 hok3 (by omega) hb3.size
    go_wp2_with fail
    refine hC4.mono ?_
    rintro e w4 ⟨g4, own4, d4, rfl, hg4, hg4', hE4, ho4, hk4, hb4⟩
    have hD4 := hD3.grown hb4 ho4 hE4.fr
    have hB4 := hb3.trans (hb4.mono hb3.size)
    have ho4z : ∀ k, k < w1.heap.size → own4 k = 0 := fun k hk => (ho4 k (by omega)).trans (ho k hk)
    have hkd : ∀ x, d3.kp = some x → x.block < w3.heap.size := fun x e => (hD3.ok x e).2.2
    have hA5 := Arm_ok w4 _ own4 1 _ d3 m3 hD4 hok3.r0 hdn N hN1 kq kl kc keep (hkp1.low hB4 (Nat.le_refl _)) (by omega)
    have hkp16 : keep.length ≤ 16384 := by rw [hkp1.len]; omega
    have hok5 : ({ m3 with left := N, keep := keep } : PD).ok (0 + S) := ⟨hok3.r0, hok3.r1, hok3.told, hok3.lasts, hkp16, by show N ≤ _; omega⟩
    have hus := used_le hok3
    clear hC4 hD3 hD4
    go_wp2_with fail
    refine hA5.mono ?_
    rintro e w5 ⟨rfl, d5, hD5, hc5⟩
    have hE5 := hE4.apart hc5 (by omega) (by have := hD5.og; exact this) (fun x e => by have := hk4 x e; omega)
    have hB5 := hB4.trans (hc5.below hB4.size (fun k e => by omega))
    have hP6 := Append_gen w5 _ own4 1 _ d5 _ hD5 hok5.r0 hdn (hok5.few (by omega)) hB5.size I hI bq bl bc xb (hxb1.low hB5 (Nat.le_refl _)) (fun x e h0 => by have := hxb1.blk e h0; omega) (by omega) (by show m3.used + bl ≤ m3.room; omega) hok5.r1
    have z5 := hc5.size
    have hlb := hxb1.len
    clear hA5 hE4
    by_cases hNb : bl < N
    · have hNi : (bl : Int) < (N : Int) := by omega
      have hgn : ({ m3 with left := N, keep := keep } : PD).gone bl = false := decide_eq_false (by show ¬ (0 < N ∧ N ≤ bl); omega)
      rw [hgn] at hP6
      have hg0 : (goneE false == 0) = true := rfl
      go_wp2_with fail
      refine hP6.mono ?_
      rintro e w6 ⟨rfl, hAf⟩
      obtain ⟨own6, d6, hD6, ho6, hc6⟩ := After.file hI hAf
      have hB6 := hB5.trans (hc6.mine_below hB5.size (Nat.le_refl _) ho4z)
      clear hP6 hAf
      go_wp2_with fail
      refine (hAw _).mono ?_
      rintro e wz ⟨rfl, hbz⟩
      have hbE := (hbt.trans (hB6.mono hbt.size)).trans (hbz.mono (hbt.trans (hB6.mono hbt.size)).size)
      go_wp2_with fail
      go_ret
      exact ⟨rfl, hbE⟩
    have hNi : ¬ (bl : Int) < (N : Int) := by omega
    have hgn : ({ m3 with left := N, keep := keep } : PD).gone bl = true := decide_eq_true (by show (0 < N ∧ N ≤ bl); omega)
    rw [hgn] at hP6
    have hact : ({ m3 with left := N, keep := keep } : PD).act bl (fun n => upP m3.f I { m3.f I with told := (m3.f I).told ++ xb.take n }) = ({ m3 with left := N, keep := keep, f := upP m3.f I { m3.f I with told := (m3.f I).told ++ xb.take N } } : PD).fall keep := by
      unfold PD.act
      rw [if_neg (by show ¬ N = 0; omega), if_pos (by show N ≤ bl; omega)]
    dsimp only at hP6
    rw [hact] at hP6
    have hg50 : (goneE true == 50) = true := rfl
    have hg00 : (goneE false == 0) = true := rfl
    go_wp2_with fail
    refine hP6.mono ?_
    rintro e w6 ⟨rfl, hAf⟩
    obtain ⟨own6, d6, hD6, ho6, hc6⟩ := After.file hI hAf
    have hB6 := hB5.trans (hc6.mine_below hB5.size (Nat.le_refl _) ho4z)
    have hE6 : DA w6 w1.heap.size own6 2 g4 d4 m3 := hE5.ch hc6 (not_mine (by omega) hE5.og) (fun j k _ hj => by
      rintro (e | ⟨i2, hi2, e⟩)
      · subst e
        rw [hD5.og] at hj
        exact mark_pos 2 j hj.symm
      · rw [hj] at e
        unfold mark at e
        omega) (fun x e => not_mine (by have := hk4 x e; omega) (hE5.ok x e).1) ho6 hD6.fr
    have z6 := hc6.size
    clear hP6 hAf hD5 hE5 hc6
    have hA7 := Arm_ok w6 _ own6 2 _ d4 m3 hE6 hok3.r0 hdn 1099511627776 (by omega) none 0 0 [] (Rd.empty _ _ _ _ (fun _ => rfl)) (by omega)
    have hok7 : ({ m3 with left := 1099511627776, keep := [] } : PD).ok (0 + S) := ⟨hok3.r0, hok3.r1, hok3.told, hok3.lasts, Nat.zero_le _, by show 1099511627776 ≤ _; omega⟩
    have hX6 : ({ m3 with left := N, keep := keep, f := upP m3.f I { m3.f I with told := (m3.f I).told ++ xb.take N } } : PD).ok (0 + S + bl) := ⟨hok3.r0, hok3.r1, fun j hj => (hok3.up (Nat.le_add_right _ _) I _ (by dsimp only; rw [List.length_append, List.length_take]; have := hok3.told I hI; omega) (by dsimp only; have := hok3.lasts I hI; omega) j hj).1, fun j hj => (hok3.up (Nat.le_add_right _ _) I _ (by dsimp only; rw [List.length_append, List.length_take]; have := hok3.told I hI; omega) (by dsimp only; have := hok3.lasts I hI; omega) j hj).2, hkp16, by show N ≤ _; omega⟩
    have hok6 := hX6.fall keep
    obtain ⟨qb, qo, rfl, _⟩ := hxb1.cells (by omega)
    have hcap := hxb1.cap
    go_wp2_with fail
    refine hA7.mono ?_
    rintro e w7 ⟨rfl, d7, hE7, hc7⟩
    have hD7 := hD6.chK hc7 (by show ¬ w1.heap.size = g4; omega) (fun j k _ hj e => by
      rw [e, hE6.og] at hj
      exact mark_pos 1 j hj.symm) rfl (fun _ _ => rfl) (fun k hk => hD6.fr k (Nat.le_trans hc7.size hk))
    have hB7 := hB6.trans (hc7.below hB6.size (fun k e => by omega))
    have z7 := hc7.size
    have hP8 := Append_gen w7 _ own6 2 _ d7 _ hE7 hok7.r0 hdn (hok7.few (by omega)) hB7.size I hI (some ⟨qb, qo, none⟩) N bc (xb.take N) ((hxb1.low hB7 (Nat.le_refl _)).take (by omega)) (fun x e h0 => by have := hxb1.blk e (by omega); omega) (by omega) (by show m3.used + N ≤ m3.room; omega) hok7.r1
    have hgn8 : ({ m3 with left := 1099511627776, keep := [] } : PD).gone N = false := decide_eq_false (by show ¬ (0 < 1099511627776 ∧ 1099511627776 ≤ N); omega)
    have hact8 : ({ m3 with left := 1099511627776, keep := [] } : PD).act N (fun n => upP m3.f I { m3.f I with told := (m3.f I).told ++ (xb.take N).take n }) = ({ m3 with left := 1099511627776 - N, keep := [], f := upP m3.f I { m3.f I with told := (m3.f I).told ++ xb.take N } } : PD) := by
      unfold PD.act
      rw [if_neg (by show ¬ 1099511627776 = 0; omega), if_neg (by show ¬ 1099511627776 ≤ N; omega)]
      dsimp only
      rw [List.take_take, Nat.min_self]
    dsimp only at hP8
    rw [hact8, hgn8] at hP8
    clear hA7 hE6 hD6
    go_wp2_with fail
    refine hP8.mono ?_
    rintro e w8 ⟨rfl, hAf⟩
    obtain ⟨own8, d8, hE8, ho8, hc8⟩ := After.file hI hAf
    have hD8 := hD7.chK hc8 (not_mine (by omega) hD7.og) (fun j k hj8 hj => by
      rintro (e | ⟨i2, hi2, e⟩)
      · rw [e, hE7.og] at hj
        exact mark_pos 1 j hj.symm
      · rw [hj] at e
        exact mark_apart hj8 hi2 (by decide) e) rfl ho8 hE8.fr
    have ho6z : ∀ k, k < w1.heap.size → own6 k = 0 := fun k hk => (ho6 k (by omega)).trans (ho4z k hk)
    have hB8 := hB7.trans (hc8.below hB7.size (fun k hk => by
      rcases hk with rfl | ⟨i2, _, e⟩
      · omega
      · refine Nat.le_of_not_lt fun hlt => ?_
        rw [ho6z k hlt] at e
        exact mark_pos 2 i2 e.symm))
    have z8 := hc8.size
    have hX8 : ({ m3 with left := 1099511627776 - N, keep := [], f := upP m3.f I { m3.f I with told := (m3.f I).told ++ xb.take N } } : PD).ok (0 + S + bl) := ⟨hX6.r0, hX6.r1, hX6.told, hX6.lasts, Nat.zero_le _, by show 1099511627776 - N ≤ _; omega⟩
    have hC9 := Crash_gen w8 _ own8 2 _ _ _ hE8 hX8.r0 hdn (hX8.few (by omega)) kq kl kc keep (hkp1.low hB8 (Nat.le_refl _)) (fun x e h0 => by have := hkp1.blk e h0; omega) (by omega)
    clear hP8 hAf hE7 hD7
    go_wp2_with fail
    refine hC9.mono ?_
    rintro e w9 ⟨rfl, d9, hE9, hc9⟩
    have hD9 := hD8.chK hc9 (by show ¬ w1.heap.size = g4; omega) (fun j k _ hj e => by
      rw [e, hE8.og] at hj
      exact mark_pos 1 j hj.symm) rfl (fun _ _ => rfl) (fun k hk => hD8.fr k (Nat.le_trans hc9.size hk))
    have hB9 := hB8.trans (hc9.below hB8.size (fun k e => by omega))
    have z9 := hc9.size
    have hok9 := hX8.fall keep
    have hFa := files_lit w9 _ own8 2 _ _ _ _ hE9 hok9 (by omega)
    clear hC9 hE8 hD8
    go_wp2_with fail
    refine hFa.mono ?_
    rintro e wa ⟨F, rfl, hRa, _, hca⟩
    have hDa := hD9.chK hca (by show ¬ w1.heap.size = g4; omega) (fun j k _ hj e => by
      rw [e, hE9.og] at hj
      exact mark_pos 1 j hj.symm) rfl (fun _ _ => rfl) (fun k hk => hD9.fr k (Nat.le_trans hca.size hk))
    have hBa := hB9.trans (hca.below hB9.size (fun k e => by omega))
    have za := hca.size
    have hFb := files_lit wa _ own8 1 _ _ _ _ hDa hok6 (by omega)
    clear hFa hD9 hE9
    go_wp2_with fail
    refine hFb.mono ?_
    rintro e wb ⟨G, rfl, hRb, _, hcb⟩
    have hQb := hRa.ch hcb (fun k hk _ => by show ¬ k = w1.heap.size; omega)
    have hBb := hBa.trans (hcb.below hBa.size (fun k e => by omega))
    have hAl := alike_any wb F G _ (fun j hj => (hQb j hj).1) (fun j hj => (hRb j hj).1)
    clear hFb hRa hDa hQb hRb
    go_wp2_with fail
    refine hAl.mono ?_
    rintro e wc ⟨rfl, hbc⟩
    have hBc := hBb.trans (hbc.mono hBb.size)
    go_wp2_with fail
    refine (hAw _).mono ?_
    rintro e wz ⟨rfl, hbz⟩
    have hbE := (hbt.trans (hBc.mono hbt.size)).trans (hbz.mono (hbt.trans (hBc.mono hbt.size)).size)
    go_wp2_with fail
    go_ret
    exact ⟨rfl, hbE⟩

end Go.Proofs.Ytcgpdaalehgjdaa.M
