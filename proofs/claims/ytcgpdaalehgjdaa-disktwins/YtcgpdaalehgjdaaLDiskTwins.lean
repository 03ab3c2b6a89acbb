/-
  Own text: the walk of the law DiskTwins.
-/
import Derived.Test.YtcgpdaalehgjdaaDTw2
namespace Go.Proofs.Ytcgpdaalehgjdaa.M
open Go.ChangeShapes Go.WideShapes Go.ChangeAt Go.RowKit

set_option maxRecDepth 20000 in
set_option maxHeartbeats 8000000 in
theorem walk_DiskTwins (w : World) (p : Option Addr) (n c : Nat) (ls : List Dv) (hl : RdQ w p n c ls) (p1 : Option Addr) (n1 c1 : Nat) (os : List Dv) (ho : RdQ w p1 n1 c1 os) (p2 : Option Addr) (n2 c2 : Nat) (ts : List Dv) (ht : RdQ w p2 n2 c2 ts) :
    Calls Try.prog 8 #[.slice p n c, .slice p1 n1 c1, .slice p2 n2 c2] w fun e w' => e = .returned (.bool true) ∧ Below w.heap.size w w' := by
  have hAw := fun W => awake_any W
  have hb0 : Below w.heap.size w (w.alloc (.cells #[.slice p n c, .slice p1 n1 c1, .slice p2 n2 c2] 22)) := (Below.refl _ _).alloc (Nat.le_refl _) _
  have r0 : (w.alloc (.cells #[.slice p n c, .slice p1 n1 c1, .slice p2 n2 c2] 22)).heap[w.heap.size]? = some (.cells #[.slice p n c, .slice p1 n1 c1, .slice p2 n2 c2] 22) := heap_alloc_new _ _
  have hS := short_any (w.alloc (.cells #[.slice p n c, .slice p1 n1 c1, .slice p2 n2 c2] 22)) _ 3 3 _ (RdQQ.three (cell_row r0 rfl) (cell_row r0 rfl) (cell_row r0 rfl) (hl.below hb0) (ho.below hb0) (ht.below hb0)) (by decide)
  have hl0 := hl.below hb0
  have ho0 := ho.below hb0
  have ht0 := ht.below hb0
  clear r0 hl ho ht
  generalize hW0 : (w.alloc (.cells #[.slice p n c, .slice p1 n1 c1, .slice p2 n2 c2] 22)) = w0 at *
  go_enter Try.func8, Try.ntmps8
  go_wp2_with fail
  refine hS.mono ?_
  rintro e w1 ⟨⟨bb, rfl, hbb⟩, hb1⟩
  have hbt := hb0.trans (hb1.mono hb0.size)
  clear hS
  cases bb with
  | false =>
    go_wp2_with fail
    refine (hAw _).mono ?_
    rintro e w2 ⟨rfl, hb2⟩
    go_wp2_with fail
    go_ret
    exact ⟨rfl, hbt.trans (hb2.mono hbt.size)⟩
  | true =>
    obtain ⟨s1, s2, s3, s4⟩ := short_three (hbb rfl)
    have hl1 := hl0.below hb1
    have ho1 := ho0.below hb1
    have ht1 := ht0.below hb1
    have q1 := hl1.len
    have q2 := ho1.len
    have q3 := ht1.len
    clear hbb hl0 ho0 ht0
    have hM := made_law 1 w1 p n c ls hl1 (by omega) s1
    have hok := playN_ok hl1 s1 (pd0_ok (r := 2097152) (by decide) (by decide)) n (Nat.le_refl _)
    have hby := bytesN_le s1 n (by omega)
    generalize hmA : playN (pd0 2097152) ls n = mA at *
    generalize bytesN ls n = S at *
    go_wp2_with fail
    refine hM.mono ?_
    rintro e w2 ⟨rfl, ⟨own, d, hD, hz⟩, hb2⟩
    have hC := Clone_any w2 _ own 1 2 _ d mA _ hD hok (by omega) hb2.size
    have gg2 := hD.dc.lt
    clear hM
    go_wp2_with fail
    refine hC.mono ?_
    rintro e w3 ⟨g2, own3, d3, rfl, hg2, hg2', hE3, ho3, hk3, hb3⟩
    have hD3 := hD.grown hb3 ho3 hE3.fr
    have hB3 := hb2.trans (hb3.mono hb2.size)
    have hz3 : ∀ k, k < w1.heap.size → own3 k = 0 := fun k hk => (ho3 k (by omega)).trans (hz k hk)
    have hkd : ∀ x, d.kp = some x → x.block < w2.heap.size := fun x e => (hD.ok x e).2.2
    have q31 := hB3.size
    have hl3 : RdQ w3 p n c ls := hl1.low hB3
    have ho3' : RdQ w3 p1 n1 c1 os := ho1.low hB3
    have ht3 : RdQ w3 p2 n2 c2 ts := ht1.low hB3
    have hQ5 := qclone_any p n c ls w3 hl3 hl3.nil0 (by omega)
    clear hC hD
    go_wp2_with fail
    refine hQ5.mono ?_
    rintro e w5 ⟨v5, rfl, hO5, hb5⟩
    have ho5 := ho3'.below hb5
    have hl5 := hl3.below hb5
    have q53 := hb5.size
    clear hQ5
    go_wp2_with (refine wpList_appQ _ rfl (.tmp 24) (.tmp 25) rfl w3.heap.size v5 ls rfl hO5 p1 n1 c1 os rfl ho5 ?ca1 ?ca2 ?ca3 ?_)
    case ca1 => omega
    case ca2 => omega
    case ca3 => exact q53
    intro v6 w6 hO6 hb6
    have hb36 := hb5.trans hb6
    have q63 := hb36.size
    obtain ⟨q6, c6, rfl, hq6⟩ := hO6.rd (rd_app (fun j hj => ⟨((hl3.rd j (by omega)).b).low hb36 (Nat.le_refl _), ((hl3.rd j (by omega)).k).low hb36 (Nat.le_refl _), (hl3.rd j (by omega)).n, (hl3.rd j (by omega)).y⟩) (fun j hj => ⟨((ho3'.rd j (by omega)).b).low hb36 (Nat.le_refl _), ((ho3'.rd j (by omega)).k).low hb36 (Nat.le_refl _), (ho3'.rd j (by omega)).n, (ho3'.rd j (by omega)).y⟩))
    have hlA : (ls ++ os).length = n + n1 := by rw [List.length_append, q1, q2]
    rw [hlA] at hq6
    rw [hlA]
    have hM7 := made_far 3 (by decide) w6 q6 (n + n1) c6 (ls ++ os) hq6 (by omega) (s1.app s2)
    have epA : playN (pd0 2097152) (ls ++ os) (n + n1) = playN mA os n1 := by
      have := playN_app (pd0 2097152) ls os n1 (by omega)
      rw [q1, hmA] at this
      exact this
    rw [epA] at hM7
    clear hO5 hO6 hq6 ho5 hl5
    go_wp2_with fail
    refine hM7.mono ?_
    rintro e w7 ⟨rfl, ⟨ownX, dX, hX7, hzX⟩, hb7⟩
    have hX7' := Fx.of hX7 hzX
    have hb37 := hb36.trans (hb7.mono hb36.size)
    have q76 := hb7.size
    have hxlt := hX7.dc.lt
    have hl7 : RdQ w7 p n c ls := hl3.low hb37
    have ht7 : RdQ w7 p2 n2 c2 ts := ht3.low hb37
    have hQ8 := qclone_any p n c ls w7 hl7 hl7.nil0 (by omega)
    clear hM7 hX7
    go_wp2_with fail
    refine hQ8.mono ?_
    rintro e w8 ⟨v8, rfl, hO8, hb8⟩
    have ht8 := ht7.below hb8
    have q87 := hb8.size
    clear hQ8
    go_wp2_with (refine wpList_appQ _ rfl (.tmp 29) (.tmp 30) rfl w7.heap.size v8 ls rfl hO8 p2 n2 c2 ts rfl ht8 ?cb1 ?cb2 ?cb3 ?_)
    case cb1 => omega
    case cb2 => omega
    case cb3 => exact q87
    intro v9 w9 hO9 hb9
    have hb79 := hb8.trans hb9
    have q97 := hb79.size
    obtain ⟨q9, c9, rfl, hq9⟩ := hO9.rd (rd_app (fun j hj => ⟨((hl7.rd j (by omega)).b).low hb79 (Nat.le_refl _), ((hl7.rd j (by omega)).k).low hb79 (Nat.le_refl _), (hl7.rd j (by omega)).n, (hl7.rd j (by omega)).y⟩) (fun j hj => ⟨((ht7.rd j (by omega)).b).low hb79 (Nat.le_refl _), ((ht7.rd j (by omega)).k).low hb79 (Nat.le_refl _), (ht7.rd j (by omega)).n, (ht7.rd j (by omega)).y⟩))
    have hlB : (ls ++ ts).length = n + n2 := by rw [List.length_append, q1, q3]
    rw [hlB] at hq9
    rw [hlB]
    have hM10 := made_far 4 (by decide) w9 q9 (n + n2) c9 (ls ++ ts) hq9 (by omega) (s1.app s3)
    have epB : playN (pd0 2097152) (ls ++ ts) (n + n2) = playN mA ts n2 := by
      have := playN_app (pd0 2097152) ls ts n2 (by omega)
      rw [q1, hmA] at this
      exact this
    rw [epB] at hM10
    clear hO8 hO9 hq9 ht8
    go_wp2_with fail
    refine hM10.mono ?_
    rintro e w10 ⟨rfl, ⟨ownY, dY, hY10, hzY⟩, hb10⟩
    have hY := Fx.of hY10 hzY
    have hb710 := hb79.trans (hb10.mono hb79.size)
    have hX := hX7'.below (by decide) hb710
    have hb310 := hb37.trans (hb710.mono hb37.size)
    have q109 := hb10.size
    have hylt := hY10.dc.lt
    have hTw := Tw.of hD3 hE3 hb310 (by omega) hz3 (fun x e => by have := hkd x e; omega) (fun x e => by have := hk3 x e; omega)
    have hB10 := hB3.trans (hb310.mono hB3.size)
    clear hM10 hX7' hY10 hD3 hE3 hl3 ho3' ht3 hl7 ht7
    generalize (fun k => if w3.heap.size ≤ k ∧ k < w10.heap.size then farM else own3 k) = ownT at *
    by_cases hmx : (n1 : Int) < (n2 : Int)
    · have hM1 : n1 ≤ n2 := by omega
      have hM2 : n2 ≤ n2 := Nat.le_refl _
      go_wp2_with fail
      go_loopw [38] (fun ix wr => ∃ (k : Nat) (ownT : Nat → Nat), k ≤ n2 ∧ ix = .int .i64 k ∧ Tw w1.heap.size 1 w1.heap.size 2 g2 w3.heap.size w10.heap.size ownT wr (playN mA os (min k n1)) (playN mA ts (min k n2)) ∧ Fx w6.heap.size w7.heap.size 3 wr (playN mA os n1) ∧ Fx w9.heap.size w10.heap.size 4 wr (playN mA ts n2) ∧ Below w1.heap.size w1 wr) (fun ix _ => n2 - (intOf ix).toNat)
      case atStart => exact ⟨0, ownT, Nat.zero_le _, rfl, by rw [Nat.zero_min, Nat.zero_min]; exact hTw, hX, hY, hB10⟩
      case round =>
        clear hTw hX hY hB10
        obtain ⟨k, ownT, hkM, rfl, hTT, hXX, hYY, hBW⟩ := hrel
        by_cases hkMlt : k < n2
        · have hkMi : (k : Int) < (n2 : Int) := by omega
          by_cases hkn1 : k < n1
          · have hki1 : (k : Int) < (n1 : Int) := by omega
            obtain ⟨b, o, rfl, hc⟩ := ho1.cells (by omega)
            have hck := hc k hkn1
            have hblt := World.block_lt_of_cell? _ _ hck.c0
            have hck2 := hck.below hBW hblt
            have hrd0 := ho1.rd k hkn1
            have hsm := s2 k (by omega)
            have hok6 := playN_ok ho1 s2 hok k (by omega)
            have hby6 := bytesN_le s2 k (by omega)
            obtain ⟨dd, hDD⟩ := hTT.d1
            have hmn : min k n1 = k := by omega
            rw [hmn] at hDD
            have hmn2 : min (k + 1) n1 = k + 1 := by omega
            have HS : Hid (playN mA os (k + 1) = ((playN mA os k).step (os.getD k .z0).q).1) := rfl
            clear hc hck
            generalize os.getD k .z0 = x at *
            obtain ⟨op, i, m, bq, bl, bc, kq, kl, kc, xb, xk⟩ := x
            obtain ⟨c0, cc1, cc2, c3, c4⟩ := hck2
            dsimp only [Dv.q] at *
            have hDo := does_any wr w1.heap.size _ 1 w1.heap.size dd _ _ hDD hok6 (by omega) hBW.size op i m bq bl bc kq kl kc xb xk (hrd0.b.low hBW (Nat.le_refl _)) (hrd0.k.low hBW (Nat.le_refl _)) (fun z e h0 => by have := hrd0.b.blk e h0; omega) (fun z e h0 => by have := hrd0.k.blk e h0; omega) hsm.1 hsm.2
            clear hDD hrd0
            go_wp2_with fail
            refine hDo.mono ?_
            rintro e Wy ⟨rfl, hAf⟩
            obtain ⟨⟨owny, hTy⟩, hcy, hby1⟩ := hTT.step (by decide) (by decide) (by decide) hAf
            have hBy := hBW.trans hby1
            have hXy := hXX.ch (by decide) hcy (fun k h1 h2 => by omega)
            have hYy := hYY.ch (by decide) hcy (fun k h1 h2 => by omega)
            have HS2 : playN mA os (min (k + 1) n1) = _ := (congrArg (playN mA os) hmn2).trans HS.out
            rw [← HS2] at hTy
            clear hDo hAf hTT hXX hYY hBW hcy hby1 c0 cc1 cc2 c3 c4 hok6 hby6 hsm hblt
            by_cases hkn2 : k < n2
            · have hki2 : (k : Int) < (n2 : Int) := by omega
              have hTys := hTy.swap
              obtain ⟨b, o, rfl, hc⟩ := ht1.cells (by omega)
              have hck := hc k hkn2
              have hblt := World.block_lt_of_cell? _ _ hck.c0
              have hck2 := hck.below hBy hblt
              have hrd0 := ht1.rd k hkn2
              have hsm := s3 k (by omega)
              have hok6 := playN_ok ht1 s3 hok k (by omega)
              have hby6 := bytesN_le s3 k (by omega)
              obtain ⟨dd, hDD⟩ := hTys.d1
              have hmn : min k n2 = k := by omega
              rw [hmn] at hDD
              have hmn2 : min (k + 1) n2 = k + 1 := by omega
              have HS : Hid (playN mA ts (k + 1) = ((playN mA ts k).step (ts.getD k .z0).q).1) := rfl
              clear hc hck
              generalize ts.getD k .z0 = x at *
              obtain ⟨op, i, m, bq, bl, bc, kq, kl, kc, xb, xk⟩ := x
              obtain ⟨c0, cc1, cc2, c3, c4⟩ := hck2
              dsimp only [Dv.q] at *
              have hDo := does_any Wy w1.heap.size _ 2 g2 dd _ _ hDD hok6 (by omega) hBy.size op i m bq bl bc kq kl kc xb xk (hrd0.b.low hBy (Nat.le_refl _)) (hrd0.k.low hBy (Nat.le_refl _)) (fun z e h0 => by have := hrd0.b.blk e h0; omega) (fun z e h0 => by have := hrd0.k.blk e h0; omega) hsm.1 hsm.2
              clear hDD hrd0
              go_wp2_with fail
              refine hDo.mono ?_
              rintro e Wz ⟨rfl, hAf⟩
              obtain ⟨⟨ownz, hTz⟩, hcz, hbz⟩ := hTys.step (by decide) (by decide) (by decide) hAf
              have hBz := hBy.trans hbz
              have hXz := hXy.ch (by decide) hcz (fun k h1 h2 => by omega)
              have hYz := hYy.ch (by decide) hcz (fun k h1 h2 => by omega)
              have HS2 : playN mA ts (min (k + 1) n2) = _ := (congrArg (playN mA ts) hmn2).trans HS.out
              rw [← HS2] at hTz
              clear hDo hAf hTys hXy hYy hBy hcz hbz c0 cc1 cc2 c3 c4 hok6 hby6 hsm hblt
              go_wp2_with fail
              go_roundw
              case rel => exact ⟨k + 1, _, by omega, by go_num, hTz.swap, hXz, hYz, hBz⟩
              case measure => simp [intOf]; omega
            · have hki2 : ¬ (k : Int) < (n2 : Int) := by omega
              exact absurd hkMlt hkn2
          · have hki1 : ¬ (k : Int) < (n1 : Int) := by omega
            have hmn1 : min k n1 = min (k + 1) n1 := by omega
            rw [hmn1] at hTT
            by_cases hkn2 : k < n2
            · have hki2 : (k : Int) < (n2 : Int) := by omega
              have hTTs := hTT.swap
              obtain ⟨b, o, rfl, hc⟩ := ht1.cells (by omega)
              have hck := hc k hkn2
              have hblt := World.block_lt_of_cell? _ _ hck.c0
              have hck2 := hck.below hBW hblt
              have hrd0 := ht1.rd k hkn2
              have hsm := s3 k (by omega)
              have hok6 := playN_ok ht1 s3 hok k (by omega)
              have hby6 := bytesN_le s3 k (by omega)
              obtain ⟨dd, hDD⟩ := hTTs.d1
              have hmn : min k n2 = k := by omega
              rw [hmn] at hDD
              have hmn2 : min (k + 1) n2 = k + 1 := by omega
              have HS : Hid (playN mA ts (k + 1) = ((playN mA ts k).step (ts.getD k .z0).q).1) := rfl
              clear hc hck
              generalize ts.getD k .z0 = x at *
              obtain ⟨op, i, m, bq, bl, bc, kq, kl, kc, xb, xk⟩ := x
              obtain ⟨c0, cc1, cc2, c3, c4⟩ := hck2
              dsimp only [Dv.q] at *
              have hDo := does_any wr w1.heap.size _ 2 g2 dd _ _ hDD hok6 (by omega) hBW.size op i m bq bl bc kq kl kc xb xk (hrd0.b.low hBW (Nat.le_refl _)) (hrd0.k.low hBW (Nat.le_refl _)) (fun z e h0 => by have := hrd0.b.blk e h0; omega) (fun z e h0 => by have := hrd0.k.blk e h0; omega) hsm.1 hsm.2
              clear hDD hrd0
              go_wp2_with fail
              refine hDo.mono ?_
              rintro e Wz ⟨rfl, hAf⟩
              obtain ⟨⟨ownz, hTz⟩, hcz, hbz⟩ := hTTs.step (by decide) (by decide) (by decide) hAf
              have hBz := hBW.trans hbz
              have hXz := hXX.ch (by decide) hcz (fun k h1 h2 => by omega)
              have hYz := hYY.ch (by decide) hcz (fun k h1 h2 => by omega)
              have HS2 : playN mA ts (min (k + 1) n2) = _ := (congrArg (playN mA ts) hmn2).trans HS.out
              rw [← HS2] at hTz
              clear hDo hAf hTTs hXX hYY hBW hcz hbz c0 cc1 cc2 c3 c4 hok6 hby6 hsm hblt
              go_wp2_with fail
              go_roundw
              case rel => exact ⟨k + 1, _, by omega, by go_num, hTz.swap, hXz, hYz, hBz⟩
              case measure => simp [intOf]; omega
            · have hki2 : ¬ (k : Int) < (n2 : Int) := by omega
              exact absurd hkMlt hkn2
        · obtain rfl : n2 = k := by omega
          have hkMi : ¬ (n2 : Int) < (n2 : Int) := by omega
          have e1 : min n2 n1 = n1 := by omega
          have e2 : min n2 n2 = n2 := by omega
          rw [e1, e2] at hTT
          have hokA := playN_ok ho1 s2 hok n1 (Nat.le_refl _)
          have hokB := playN_ok ht1 s3 hok n2 (Nat.le_refl _)
          have hbyA := bytesN_le s2 n1 (by omega)
          have hbyB := bytesN_le s3 n2 (by omega)
          generalize playN mA os n1 = mX at *
          generalize playN mA ts n2 = mY at *
          generalize bytesN os n1 = SA at *
          generalize bytesN ts n2 = SB at *
          obtain ⟨da, hDa⟩ := hTT.d1
          have qwr := hTT.s2
          have hFa := files_lit wr _ _ 1 _ da mX _ hDa hokA (by omega)
          clear hDa
          go_wp2_with fail
          refine hFa.mono ?_
          rintro e wa ⟨F, rfl, hRa, hDa, hca⟩
          obtain ⟨⟨owna, hTa⟩, hcA, hbA⟩ := hTT.own (by decide) (by decide) (by decide) hDa hca
          have hXa := hXX.ch (by decide) hcA (fun k h1 h2 => by omega)
          have hYa := hYY.ch (by decide) hcA (fun k h1 h2 => by omega)
          have hBa := hBW.trans hbA
          have qwa := hca.size
          obtain ⟨ownx, dx, hDx, _, _, _⟩ := hXa.da
          have hFb := files_lit wa _ _ 3 _ dx mX _ hDx hokA (by omega)
          clear hFa hDa hDx hXX hYY hTT hcA hbA
          go_wp2_with fail
          refine hFb.mono ?_
          rintro e wb ⟨G, rfl, hRb, _, hcb⟩
          have hQb := hRa.ch hcb (fun k hk _ => by show ¬ k = w6.heap.size; omega)
          have hTb := hTa.mids (by decide) (by decide) (b := w6.heap.size) (by omega) (by omega) hcb
          have hYb := hYa.ch (by decide) hcb (fun k h1 h2 => by show ¬ k = w6.heap.size; omega)
          have hBb := hBa.trans (hcb.below hBa.size (fun k e => by omega))
          have hAl := alike_any wb F G _ (fun j hj => (hQb j hj).1) (fun j hj => (hRb j hj).1)
          clear hFb hRa hQb hRb hTa hYa hXa
          go_wp2_with fail
          refine hAl.mono ?_
          rintro e wc ⟨rfl, hbc⟩
          have hTc := (hTb.below hbc).swap
          have hYc := hYb.below (by decide) hbc
          have hBc := hBb.trans (hbc.mono hBb.size)
          obtain ⟨db, hDb⟩ := hTc.d1
          have qwc := hTc.s2
          have hFc := files_lit wc _ _ 2 _ db mY _ hDb hokB (by omega)
          clear hAl hDb hTb hYb
          go_wp2_with fail
          refine hFc.mono ?_
          rintro e wd ⟨H, rfl, hRd, hDd, hcd⟩
          obtain ⟨_, hcD, hbD⟩ := hTc.own (by decide) (by decide) (by decide) hDd hcd
          have hYd := hYc.ch (by decide) hcD (fun k h1 h2 => by omega)
          have hBd := hBc.trans hbD
          have qwd := hcd.size
          obtain ⟨owny, dy, hDy, _, _, _⟩ := hYd.da
          have hFd := files_lit wd _ _ 4 _ dy mY _ hDy hokB (by omega)
          clear hFc hDd hDy hTc hYc hcD hbD
          go_wp2_with fail
          refine hFd.mono ?_
          rintro e we ⟨J, rfl, hRe, _, hce⟩
          have hQe := hRd.ch hce (fun k hk _ => by show ¬ k = w9.heap.size; omega)
          have hBe := hBd.trans (hce.below hBd.size (fun k e => by omega))
          have hAm := alike_any we H J _ (fun j hj => (hQe j hj).1) (fun j hj => (hRe j hj).1)
          clear hFd hRd hQe hRe hYd
          go_wp2_with fail
          refine hAm.mono ?_
          rintro e wf ⟨rfl, hbf⟩
          have hBf := hBe.trans (hbf.mono hBe.size)
          go_wp2_with fail
          refine (hAw _).mono ?_
          rintro e wz ⟨rfl, hbz⟩
          have hbE := (hbt.trans (hBf.mono hbt.size)).trans (hbz.mono (hbt.trans (hBf.mono hbt.size)).size)
          go_wp2_with fail
          go_ret
          exact ⟨rfl, hbE⟩
    · have hM1 : n1 ≤ n1 := Nat.le_refl _
      have hM2 : n2 ≤ n1 := by omega
      go_wp2_with fail
      go_loopw [38] (fun ix wr => ∃ (k : Nat) (ownT : Nat → Nat), k ≤ n1 ∧ ix = .int .i64 k ∧ Tw w1.heap.size 1 w1.heap.size 2 g2 w3.heap.size w10.heap.size ownT wr (playN mA os (min k n1)) (playN mA ts (min k n2)) ∧ Fx w6.heap.size w7.heap.size 3 wr (playN mA os n1) ∧ Fx w9.heap.size w10.heap.size 4 wr (playN mA ts n2) ∧ Below w1.heap.size w1 wr) (fun ix _ => n1 - (intOf ix).toNat)
      case atStart => exact ⟨0, ownT, Nat.zero_le _, rfl, by rw [Nat.zero_min, Nat.zero_min]; exact hTw, hX, hY, hB10⟩
      case round =>
        clear hTw hX hY hB10
        obtain ⟨k, ownT, hkM, rfl, hTT, hXX, hYY, hBW⟩ := hrel
        by_cases hkMlt : k < n1
        · have hkMi : (k : Int) < (n1 : Int) := by omega
          by_cases hkn1 : k < n1
          · have hki1 : (k : Int) < (n1 : Int) := by omega
            obtain ⟨b, o, rfl, hc⟩ := ho1.cells (by omega)
            have hck := hc k hkn1
            have hblt := World.block_lt_of_cell? _ _ hck.c0
            have hck2 := hck.below hBW hblt
            have hrd0 := ho1.rd k hkn1
            have hsm := s2 k (by omega)
            have hok6 := playN_ok ho1 s2 hok k (by omega)
            have hby6 := bytesN_le s2 k (by omega)
            obtain ⟨dd, hDD⟩ := hTT.d1
            have hmn : min k n1 = k := by omega
            rw [hmn] at hDD
            have hmn2 : min (k + 1) n1 = k + 1 := by omega
            have HS : Hid (playN mA os (k + 1) = ((playN mA os k).step (os.getD k .z0).q).1) := rfl
            clear hc hck
            generalize os.getD k .z0 = x at *
            obtain ⟨op, i, m, bq, bl, bc, kq, kl, kc, xb, xk⟩ := x
            obtain ⟨c0, cc1, cc2, c3, c4⟩ := hck2
            dsimp only [Dv.q] at *
            have hDo := does_any wr w1.heap.size _ 1 w1.heap.size dd _ _ hDD hok6 (by omega) hBW.size op i m bq bl bc kq kl kc xb xk (hrd0.b.low hBW (Nat.le_refl _)) (hrd0.k.low hBW (Nat.le_refl _)) (fun z e h0 => by have := hrd0.b.blk e h0; omega) (fun z e h0 => by have := hrd0.k.blk e h0; omega) hsm.1 hsm.2
            clear hDD hrd0
            go_wp2_with fail
            refine hDo.mono ?_
            rintro e Wy ⟨rfl, hAf⟩
            obtain ⟨⟨owny, hTy⟩, hcy, hby1⟩ := hTT.step (by decide) (by decide) (by decide) hAf
            have hBy := hBW.trans hby1
            have hXy := hXX.ch (by decide) hcy (fun k h1 h2 => by omega)
            have hYy := hYY.ch (by decide) hcy (fun k h1 h2 => by omega)
            have HS2 : playN mA os (min (k + 1) n1) = _ := (congrArg (playN mA os) hmn2).trans HS.out
            rw [← HS2] at hTy
            clear hDo hAf hTT hXX hYY hBW hcy hby1 c0 cc1 cc2 c3 c4 hok6 hby6 hsm hblt
            by_cases hkn2 : k < n2
            · have hki2 : (k : Int) < (n2 : Int) := by omega
              have hTys := hTy.swap
              obtain ⟨b, o, rfl, hc⟩ := ht1.cells (by omega)
              have hck := hc k hkn2
              have hblt := World.block_lt_of_cell? _ _ hck.c0
              have hck2 := hck.below hBy hblt
              have hrd0 := ht1.rd k hkn2
              have hsm := s3 k (by omega)
              have hok6 := playN_ok ht1 s3 hok k (by omega)
              have hby6 := bytesN_le s3 k (by omega)
              obtain ⟨dd, hDD⟩ := hTys.d1
              have hmn : min k n2 = k := by omega
              rw [hmn] at hDD
              have hmn2 : min (k + 1) n2 = k + 1 := by omega
              have HS : Hid (playN mA ts (k + 1) = ((playN mA ts k).step (ts.getD k .z0).q).1) := rfl
              clear hc hck
              generalize ts.getD k .z0 = x at *
              obtain ⟨op, i, m, bq, bl, bc, kq, kl, kc, xb, xk⟩ := x
              obtain ⟨c0, cc1, cc2, c3, c4⟩ := hck2
              dsimp only [Dv.q] at *
              have hDo := does_any Wy w1.heap.size _ 2 g2 dd _ _ hDD hok6 (by omega) hBy.size op i m bq bl bc kq kl kc xb xk (hrd0.b.low hBy (Nat.le_refl _)) (hrd0.k.low hBy (Nat.le_refl _)) (fun z e h0 => by have := hrd0.b.blk e h0; omega) (fun z e h0 => by have := hrd0.k.blk e h0; omega) hsm.1 hsm.2
              clear hDD hrd0
              go_wp2_with fail
              refine hDo.mono ?_
              rintro e Wz ⟨rfl, hAf⟩
              obtain ⟨⟨ownz, hTz⟩, hcz, hbz⟩ := hTys.step (by decide) (by decide) (by decide) hAf
              have hBz := hBy.trans hbz
              have hXz := hXy.ch (by decide) hcz (fun k h1 h2 => by omega)
              have hYz := hYy.ch (by decide) hcz (fun k h1 h2 => by omega)
              have HS2 : playN mA ts (min (k + 1) n2) = _ := (congrArg (playN mA ts) hmn2).trans HS.out
              rw [← HS2] at hTz
              clear hDo hAf hTys hXy hYy hBy hcz hbz c0 cc1 cc2 c3 c4 hok6 hby6 hsm hblt
              go_wp2_with fail
              go_roundw
              case rel => exact ⟨k + 1, _, by omega, by go_num, hTz.swap, hXz, hYz, hBz⟩
              case measure => simp [intOf]; omega
            · have hki2 : ¬ (k : Int) < (n2 : Int) := by omega
              have hmn3 : min k n2 = min (k + 1) n2 := by omega
              rw [hmn3] at hTy
              go_wp2_with fail
              go_roundw
              case rel => exact ⟨k + 1, _, by omega, by go_num, hTy, hXy, hYy, hBy⟩
              case measure => simp [intOf]; omega
          · exact absurd hkMlt hkn1
        · obtain rfl : n1 = k := by omega
          have hkMi : ¬ (n1 : Int) < (n1 : Int) := by omega
          have e1 : min n1 n1 = n1 := by omega
          have e2 : min n1 n2 = n2 := by omega
          rw [e1, e2] at hTT
          have hokA := playN_ok ho1 s2 hok n1 (Nat.le_refl _)
          have hokB := playN_ok ht1 s3 hok n2 (Nat.le_refl _)
          have hbyA := bytesN_le s2 n1 (by omega)
          have hbyB := bytesN_le s3 n2 (by omega)
          generalize playN mA os n1 = mX at *
          generalize playN mA ts n2 = mY at *
          generalize bytesN os n1 = SA at *
          generalize bytesN ts n2 = SB at *
          obtain ⟨da, hDa⟩ := hTT.d1
          have qwr := hTT.s2
          have hFa := files_lit wr _ _ 1 _ da mX _ hDa hokA (by omega)
          clear hDa
          go_wp2_with fail
          refine hFa.mono ?_
          rintro e wa ⟨F, rfl, hRa, hDa, hca⟩
          obtain ⟨⟨owna, hTa⟩, hcA, hbA⟩ := hTT.own (by decide) (by decide) (by decide) hDa hca
          have hXa := hXX.ch (by decide) hcA (fun k h1 h2 => by omega)
          have hYa := hYY.ch (by decide) hcA (fun k h1 h2 => by omega)
          have hBa := hBW.trans hbA
          have qwa := hca.size
          obtain ⟨ownx, dx, hDx, _, _, _⟩ := hXa.da
          have hFb := files_lit wa _ _ 3 _ dx mX _ hDx hokA (by omega)
          clear hFa hDa hDx hXX hYY hTT hcA hbA
          go_wp2_with fail
          refine hFb.mono ?_
          rintro e wb ⟨G, rfl, hRb, _, hcb⟩
          have hQb := hRa.ch hcb (fun k hk _ => by show ¬ k = w6.heap.size; omega)
          have hTb := hTa.mids (by decide) (by decide) (b := w6.heap.size) (by omega) (by omega) hcb
          have hYb := hYa.ch (by decide) hcb (fun k h1 h2 => by show ¬ k = w6.heap.size; omega)
          have hBb := hBa.trans (hcb.below hBa.size (fun k e => by omega))
          have hAl := alike_any wb F G _ (fun j hj => (hQb j hj).1) (fun j hj => (hRb j hj).1)
          clear hFb hRa hQb hRb hTa hYa hXa
          go_wp2_with fail
          refine hAl.mono ?_
          rintro e wc ⟨rfl, hbc⟩
          have hTc := (hTb.below hbc).swap
          have hYc := hYb.below (by decide) hbc
          have hBc := hBb.trans (hbc.mono hBb.size)
          obtain ⟨db, hDb⟩ := hTc.d1
          have qwc := hTc.s2
          have hFc := files_lit wc _ _ 2 _ db mY _ hDb hokB (by omega)
          clear hAl hDb hTb hYb
          go_wp2_with fail
          refine hFc.mono ?_
          rintro e wd ⟨H, rfl, hRd, hDd, hcd⟩
          obtain ⟨_, hcD, hbD⟩ := hTc.own (by decide) (by decide) (by decide) hDd hcd
          have hYd := hYc.ch (by decide) hcD (fun k h1 h2 => by omega)
          have hBd := hBc.trans hbD
          have qwd := hcd.size
          obtain ⟨owny, dy, hDy, _, _, _⟩ := hYd.da
          have hFd := files_lit wd _ _ 4 _ dy mY _ hDy hokB (by omega)
          clear hFc hDd hDy hTc hYc hcD hbD
          go_wp2_with fail
          refine hFd.mono ?_
          rintro e we ⟨J, rfl, hRe, _, hce⟩
          have hQe := hRd.ch hce (fun k hk _ => by show ¬ k = w9.heap.size; omega)
          have hBe := hBd.trans (hce.below hBd.size (fun k e => by omega))
          have hAm := alike_any we H J _ (fun j hj => (hQe j hj).1) (fun j hj => (hRe j hj).1)
          clear hFd hRd hQe hRe hYd
          go_wp2_with fail
          refine hAm.mono ?_
          rintro e wf ⟨rfl, hbf⟩
          have hBf := hBe.trans (hbf.mono hBe.size)
          go_wp2_with fail
          refine (hAw _).mono ?_
          rintro e wz ⟨rfl, hbz⟩
          have hbE := (hbt.trans (hBf.mono hbt.size)).trans (hbz.mono (hbt.trans (hBf.mono hbt.size)).size)
          go_wp2_with fail
          go_ret
          exact ⟨rfl, hbE⟩

end Go.Proofs.Ytcgpdaalehgjdaa.M
