/-
  Own text: contracts of the reference's Near, Cost and Write.
-/
import Derived.Test.YtdjeafaaclhpkaaZRead
namespace Go.Proofs.Ytdjeafaaclhpkaa.M
open Go.ChangeShapes Go.WideShapes Go.ChangeAt Go.RowKit

/-- A member's key: those that are fresh behind all others, else by ways. -/
def keyW (xs : List Int) (i0 : Nat) (m : Mb) : Nat := (if m.f then 1001 else 0) + (wv xs i0 m.s.toNat).toNat

theorem keyW_lt {xs : List Int} (h : inW xs) (i0 : Nat) (m : Mb) : keyW xs i0 m < 2002 := by
  have := h.at i0 m.s.toNat
  unfold keyW
  split <;> omega

theorem byKey_nr {xs : List Int} (h : inW xs) (i0 : Nat) (L : List Mb) : ByKey (nrC xs i0) (keyW xs i0) L := by
  intro a _ b _
  have h1 := h.at i0 a.s.toNat
  have h2 := h.at i0 b.s.toNat
  unfold nrC keyW cmpI
  generalize wv xs i0 a.s.toNat = x at *
  generalize wv xs i0 b.s.toNat = y at *
  cases a.f <;> cases b.f <;> simp
  all_goals (repeat' split) <;> omega

theorem count_succ (key : Mb → Nat) (K : Nat) : ∀ L : List Mb, (L.filter fun m => decide (key m < K + 1)).length = (L.filter fun m => decide (key m < K)).length + (L.filter fun m => key m == K).length
  | [] => rfl
  | m :: l => by
    have ih := count_succ key K l
    simp only [List.filter_cons]
    rcases Nat.lt_trichotomy (key m) K with h | h | h
    · rw [if_pos (by simp; omega), if_pos (by simp; omega), if_neg (by simp; omega)]
      simp only [List.length_cons]
      omega
    · rw [if_pos (by simp; omega), if_neg (by simp; omega), if_pos (by simp; omega)]
      simp only [List.length_cons]
      omega
    · rw [if_neg (by simp; omega), if_neg (by simp; omega), if_neg (by simp; omega)]
      exact ih

theorem bk_len (key : Mb → Nat) (L : List Mb) : ∀ K, (bk key K L).length = (L.filter fun m => decide (key m < K)).length
  | 0 => by
    have : (L.filter fun m => decide (key m < 0)) = [] := by rw [List.filter_eq_nil_iff]; intro a _; simp
    rw [this]
    rfl
  | K + 1 => by rw [bk_succ, List.length_append, bk_len key L K, count_succ]

theorem bk_le (key : Mb → Nat) (K : Nat) (L : List Mb) : (bk key K L).length ≤ L.length := by
  rw [bk_len]
  exact List.length_filter_le _ _

/-- Those of the keys ahead of K, and of key K those of the first k members. -/
def bkU (key : Mb → Nat) (K k : Nat) (L : List Mb) : List Int := (bk key K L ++ (L.take k).filter fun m => key m == K).map (·.n)

theorem bkU_zero (key : Mb → Nat) (K : Nat) (L : List Mb) : bkU key K 0 L = (bk key K L).map (·.n) := by simp [bkU]

theorem bkU_end (key : Mb → Nat) (K k : Nat) (L : List Mb) (h : L.length ≤ k) : bkU key K k L = bkU key (K + 1) 0 L := by
  rw [bkU_zero, bk_succ, bkU, List.take_of_length_le h]

theorem bkU_step (key : Mb → Nat) (K k : Nat) (L : List Mb) (h : k < L.length) : bkU key K (k + 1) L = bkU key K k L ++ (if key (L.getD k .z0) = K then [(L.getD k .z0).n] else []) := by
  unfold bkU
  rw [List.take_add_one, List.getElem?_eq_getElem h, List.getD_eq_getElem?_getD, List.getElem?_eq_getElem h, List.filter_append, ← List.append_assoc, List.map_append]
  congr 1
  simp only [Option.toList_some, Option.getD_some, List.filter_cons, List.filter_nil]
  by_cases e : key L[k] = K
  · simp [e]
  · simp [e]

theorem bkU_len (key : Mb → Nat) (K k : Nat) (L : List Mb) : (bkU key K k L).length ≤ L.length + L.length := by
  unfold bkU
  rw [List.length_map, List.length_append]
  have h1 := bk_le key K L
  have h2 : ((L.take k).filter fun m => key m == K).length ≤ L.length := Nat.le_trans (List.length_filter_le _ _) (by rw [List.length_take]; omega)
  omega

theorem key_cond {xs : List Int} {i0 : Nat} {m : Mb} (h : inW xs) (T mm : Nat) (hT : T < 2) (hm : mm < 1001) : (keyW xs i0 m = 1001 * T + mm) ↔ (m.f = decide (T = 1) ∧ wv xs i0 m.s.toNat = (mm : Int)) := by
  have h1 := h.at i0 m.s.toNat
  unfold keyW
  generalize wv xs i0 m.s.toNat = x at *
  obtain rfl | rfl : T = 0 ∨ T = 1 := by omega
  all_goals cases m.f <;> simp <;> omega

set_option maxRecDepth 20000 in
set_option maxHeartbeats 2000000 in
theorem rNear_ok (e : Int) (p : Option Addr) (n c : Nat) (ms : List Mb) (a0 a1 a2 a3 a4 a5 a6 a7 a8 : Int) (i0 : Nat) (hi0 : i0 < 3) (hk : chk e ms = true) (hw : okW [a0, a1, a2, a3, a4, a5, a6, a7, a8] = true) (w : World) (hr : RdM w p n c ms) (hn : n ≤ 5864062014805) :
    Calls Try.prog 16 #[.agg #[.int .i64 e, .slice p n c], .agg #[.int .i64 a0, .int .i64 a1, .int .i64 a2, .int .i64 a3, .int .i64 a4, .int .i64 a5, .int .i64 a6, .int .i64 a7, .int .i64 a8], .int .i64 (i0 : Int)] w fun r w' => ∃ q d, r = .returned (.tuple #[.slice q n d, .int .i64 0]) ∧ Rd .i64 w' q n d ((srt (nrC [a0, a1, a2, a3, a4, a5, a6, a7, a8] i0) ms).map (·.n)) ∧ Below w.heap.size w w' := by
  have hb0 : Below w.heap.size w ((w.alloc (.cells #[.int .i64 e, .slice p n c] 33)).alloc (.cells #[.int .i64 a0, .int .i64 a1, .int .i64 a2, .int .i64 a3, .int .i64 a4, .int .i64 a5, .int .i64 a6, .int .i64 a7, .int .i64 a8] 24)) := ((Below.refl _ _).alloc (Nat.le_refl _) _).alloc (by simp) _
  have hA : ArrI 24 .i64 ((w.alloc (.cells #[.int .i64 e, .slice p n c] 33)).alloc (.cells #[.int .i64 a0, .int .i64 a1, .int .i64 a2, .int .i64 a3, .int .i64 a4, .int .i64 a5, .int .i64 a6, .int .i64 a7, .int .i64 a8] 24)) (w.heap.size + 1) [a0, a1, a2, a3, a4, a5, a6, a7, a8] := new_at (by simp) (nine_cells (t := 24) (w.alloc (.cells #[.int .i64 e, .slice p n c] 33)) a0 a1 a2 a3 a4 a5 a6 a7 a8)
  have hK : At 33 ((w.alloc (.cells #[.int .i64 e, .slice p n c] 33)).alloc (.cells #[.int .i64 a0, .int .i64 a1, .int .i64 a2, .int .i64 a3, .int .i64 a4, .int .i64 a5, .int .i64 a6, .int .i64 a7, .int .i64 a8] 24)) w.heap.size #[.int .i64 e, .slice p n c] := (At.new 33 w #[.int .i64 e, .slice p n c]).alloc _
  have hS : isSt (i0 : Int) = true := by unfold isSt; simp; omega
  have hO := may_any e p n c ms a0 a1 a2 a3 a4 a5 a6 a7 a8 (i0 : Int) _ (hr.below hb0) hn
  have hmy : mayR e ms [a0, a1, a2, a3, a4, a5, a6, a7, a8] (i0 : Int) = 0 := by unfold mayR; rw [if_pos hk, if_pos ⟨hw, hS⟩]
  rw [hmy] at hO
  have h6 := chk_six hk
  have hl := hr.len
  have HIN : Hid (inW [a0, a1, a2, a3, a4, a5, a6, a7, a8]) := okW_in (B9 := [a0, a1, a2, a3, a4, a5, a6, a7, a8]) rfl hw
  have HSI : Hid (∀ m ∈ ms, ∃ j : Nat, j < 3 ∧ m.s = (j : Int)) := fun m hm => chk_site hk hm
  have HLX : Hid ([a0, a1, a2, a3, a4, a5, a6, a7, a8].length = 9) := rfl
  have HSR : Hid ((srt (nrC [a0, a1, a2, a3, a4, a5, a6, a7, a8] i0) ms).map (·.n) = bkU (keyW [a0, a1, a2, a3, a4, a5, a6, a7, a8] i0) 2002 0 ms) := by
    unfold Hid
    rw [srt_bk (byKey_nr HIN.out i0 ms) 2002 (fun m _ => keyW_lt HIN.out i0 m), bkU_zero]
  have HLN : Hid ((srt (nrC [a0, a1, a2, a3, a4, a5, a6, a7, a8] i0) ms).length = n) := by unfold Hid; rw [srt_len]; exact hl
  obtain ⟨i1, hi1, hz0, hz1, hz2⟩ := info_parts infoI
  generalize [a0, a1, a2, a3, a4, a5, a6, a7, a8] = xs at *
  generalize srt (nrC xs i0) ms = SR at *
  have hi3 : (i0 : Int) < 3 := by omega
  clear hS hk hw hmy
  go_enter Try.func16, Try.ntmps16
  go_wp2_with fail
  refine hO.mono ?_
  rintro r w1 ⟨rfl, hb1⟩
  have hbx := hb0.trans (hb1.mono hb0.size)
  have hba2 : Below w1.heap.size w1 (w1.alloc (.cells #[.bool false, .bool true] 4)) := (Below.refl _ _).alloc (Nat.le_refl _) _
  have hK2 := (hK.below hb1).below hba2
  have hA2 := (hA.below hb1).below hba2
  have hb2 := hbx.trans (hba2.mono hbx.size)
  have hr2 := hr.below hb2
  have hF2 : At 4 (w1.alloc (.cells #[.bool false, .bool true] 4)) w1.heap.size #[.bool false, .bool true] := At.new _ _ _
  clear hO hb0 hb1 hr hA hK hba2 hbx
  go_wp2_with fail
  generalize (w1.alloc (.cells #[.bool false, .bool true] 4)) = w2 at *
  generalize hgb : w1.heap.size = gb at *
  generalize hB0 : w2.heap.size = B0 at *
  go_loopw [9, 24] (fun v i wr => ∃ (TT : Nat) (q : Option Addr) (l d : Nat), TT ≤ 2 ∧ i = .int .i64 TT ∧ v = .slice q l d ∧ Hid (l = (bkU (keyW xs i0) (1001 * TT) 0 ms).length) ∧ Ow .i64 3 wr B0 q l d (bkU (keyW xs i0) (1001 * TT) 0 ms) ∧ Below B0 w2 wr) (fun _ i _ => 2 - (intOf i).toNat)
  case atStart => exact ⟨0, none, 0, 0, by decide, rfl, rfl, rfl, Ow.empty _ _ _ _ _, Below.refl _ _⟩
  case round =>
    obtain ⟨TT, q, l, d, hT, rfl, rfl, HL, ho, hb⟩ := hrel
    have hbW : Below w2.heap.size w2 wr := by rw [hB0]; exact hb
    obtain ⟨f0, f1⟩ := (hF2.below hbW).two
    obtain rfl | rfl | rfl : TT = 0 ∨ TT = 1 ∨ TT = 2 := by omega
    · go_wp2_with fail
      go_loopw [9, 28] (fun v i wr => ∃ (mm : Nat) (q : Option Addr) (l d : Nat), mm ≤ 1001 ∧ i = .int .i64 mm ∧ v = .slice q l d ∧ Hid (l = (bkU (keyW xs i0) (1001 * 0 + mm) 0 ms).length) ∧ Ow .i64 3 wr B0 q l d (bkU (keyW xs i0) (1001 * 0 + mm) 0 ms) ∧ Below B0 w2 wr) (fun _ i _ => 1001 - (intOf i).toNat)
      case atStart => exact ⟨0, q, l, d, Nat.zero_le _, rfl, rfl, HL, ho, hb⟩
      case round =>
        clear HL ho hb
        obtain ⟨mm, q, l, d, hm0, rfl, rfl, HL, ho, hb⟩ := hrel
        have hbW : Below w2.heap.size w2 wr := by rw [hB0]; exact hb
        obtain ⟨_, k1⟩ := (hK2.below hbW).two
        by_cases hm : mm < 1001
        · have hmi : (mm : Int) < 1001 := by omega
          go_wp2_with fail
          go_loopw [9, 34] (fun v i wr => ∃ (k : Nat) (q : Option Addr) (l d : Nat), k ≤ n ∧ i = .int .i64 k ∧ v = .slice q l d ∧ Hid (l = (bkU (keyW xs i0) (1001 * 0 + mm) k ms).length) ∧ Ow .i64 3 wr B0 q l d (bkU (keyW xs i0) (1001 * 0 + mm) k ms) ∧ Below B0 w2 wr) (fun _ i _ => n - (intOf i).toNat)
          case atStart => exact ⟨0, q, l, d, Nat.zero_le _, rfl, rfl, HL, ho, hb⟩
          case round =>
            clear HL ho hb
            obtain ⟨k, q, l, d, hk, rfl, rfl, HL, ho, hb⟩ := hrel
            have hbW : Below w2.heap.size w2 wr := by rw [hB0]; exact hb
            by_cases h : k < n
            · obtain ⟨g1, o1, rfl, c1⟩ := (hr2.below hbW).cells (by omega)
              obtain ⟨x1, x2, x3⟩ := c1 k h
              have hk1 : (k : Int) < (n : Int) := by omega
              have hll : l ≤ n + n := by rw [HL.out]; have := bkU_len (keyW xs i0) (1001 * 0 + mm) k ms; omega
              have HS : Hid (bkU (keyW xs i0) (1001 * 0 + mm) (k + 1) ms = bkU (keyW xs i0) (1001 * 0 + mm) k ms ++ (if keyW xs i0 (ms.getD k .z0) = 1001 * 0 + mm then [(ms.getD k .z0).n] else [])) := bkU_step _ _ _ _ (by omega)
              have HC : Hid (keyW xs i0 (ms.getD k .z0) = 1001 * 0 + mm ↔ ((ms.getD k .z0).f = decide (0 = 1) ∧ wv xs i0 (ms.getD k .z0).s.toNat = (mm : Int))) := key_cond HIN.out 0 mm (by omega) hm
              obtain ⟨j, hj, hjs⟩ := HSI.out _ (getD_mb (fs := ms) (k := k) (by omega))
              have hw5 := (hA2.below hbW).cell (i := i0 * 3 + j) (by rw [HLX.out]; omega)
              have HWV : Hid (wv xs i0 (ms.getD k .z0).s.toNat = xs.getD (i0 * 3 + j) 0) := by unfold Hid; rw [hjs, Int.toNat_natCast]; rfl
              rw [HWV.out] at HC
              rw [hjs] at x2
              generalize xs.getD (i0 * 3 + j) 0 = WX at *
              clear c1 hjs HWV
              have HS2 : Hid (bkU (keyW xs i0) (1001 * 0 + mm) (k + 1) ms = bkU (keyW xs i0) (1001 * 0 + mm) k ms ++ (if ((ms.getD k .z0).f = decide (0 = 1) ∧ WX = (mm : Int)) then [(ms.getD k .z0).n] else [])) := by
                unfold Hid
                rw [HS.out]
                congr 1
                by_cases hc : keyW xs i0 (ms.getD k .z0) = 1001 * 0 + mm
                · rw [if_pos hc, if_pos (HC.out.1 hc)]
                · rw [if_neg hc, if_neg (fun k => hc (HC.out.2 k))]
              clear HS HC
              generalize (ms.getD k .z0).n = fn at *
              generalize (ms.getD k .z0).f = ff at *
              generalize bkU (keyW xs i0) (1001 * 0 + mm) k ms = ys at *
              have hj3 : (j : Int) < 3 := by omega
              have hba : Below wr.heap.size wr (wr.alloc (.cells #[.int .i64 fn, .int .i64 (j : Int), .bool ff] 36)) := (Below.refl _ _).alloc (Nat.le_refl _) _
              have hwa := (hba.cell (p := ⟨w.heap.size + 1, i0 * 3 + j, none⟩) (World.block_lt_of_cell? _ _ hw5)).trans hw5
              have hoa := ho.below hba
              have hbb := hb.trans (hba.mono (by rw [← hB0]; exact hbW.size))
              obtain ⟨d0, d1, d2⟩ := (At.new 36 wr #[.int .i64 fn, .int .i64 (j : Int), .bool ff]).three
              by_cases hcond : ff = decide (0 = 1) ∧ WX = (mm : Int)
              · have HT : Hid (bkU (keyW xs i0) (1001 * 0 + mm) (k + 1) ms = ys ++ [fn]) := by unfold Hid; rw [HS2.out, if_pos hcond]
                obtain ⟨hc1, hc2⟩ := hcond
                have hfe : (ff == false) = true := by rw [hc1]; decide
                have hwe : (WX == (mm : Int)) = true := by rw [hc2]; simp
                clear HS2 hc1 hc2
                go_wp2_with fail
                go_quiet (fail)
                have hob0 := hoa.below (below_drewN (Below.refl _ _) nq)
                have hbb0 := below_drewN hbb nq
                have e0 : (World.drewN (wr.alloc (.cells #[.int .i64 fn, .int .i64 (j : Int), .bool ff] 36)) nq).cell? ⟨wr.heap.size, 0, none⟩ = some (.int .i64 fn) := d0
                generalize hw3 : World.drewN (wr.alloc (.cells #[.int .i64 fn, .int .i64 (j : Int), .bool ff] 36)) nq = w3 at *
                have hob := hob0.below (below_alloc w3 (.cells #[.int .i64 fn] 3))
                have hbc := hbb0.trans ((below_alloc w3 (.cells #[.int .i64 fn] 3)).mono (by rw [← hB0] at hbb0 ⊢; exact hbb0.size))
                have hone := Rd.one .i64 w3 3 fn
                clear hw3 hob0 hoa
                go_wp2_with (at_builtin; refine wpList_app _ rfl (.tmp 52) (.tmp 55) 37 rfl .i64 3 i1 (.int .i64 0) 8 Try.underlying37 hi1 hz0 hz1 hz2 rfl B0 q l d ys rfl hob _ 1 1 [fn] rfl hone ?d1 ?d2 ?d3 ?_)
                case d1 => omega
                case d2 => unfold maxLen; omega
                case d3 => rw [← hB0] at hbc ⊢; exact hbc.size
                intro p2 c2 w4 ho2 hb3
                go_wp2_with fail
                have hfin : ∃ (k' : Nat) (q' : Option Addr) (l' d' : Nat), k' ≤ n ∧ Value.int .i64 ((k : Int) + 1) = .int .i64 (k' : Int) ∧ Value.slice p2 (l + 1) c2 = .slice q' l' d' ∧ Hid (l' = (bkU (keyW xs i0) (1001 * 0 + mm) k' ms).length) ∧ Ow .i64 3 w4 B0 q' l' d' (bkU (keyW xs i0) (1001 * 0 + mm) k' ms) ∧ Below B0 w2 w4 :=
                  ⟨k + 1, p2, l + 1, c2, by omega, by go_num, rfl, by unfold Hid; rw [HT.out, List.length_append, ← HL.out]; rfl, by rw [HT.out]; exact ho2, hbc.trans hb3⟩
                refine ⟨⟨_, _, _, _, _, _, _, _, _, _, _, _, _, _, _, _, _, _, _, _, _, _, _, _, _, _, hfin, rfl⟩, ?_⟩
                simp [intOf]
                omega
              · have HT : Hid (bkU (keyW xs i0) (1001 * 0 + mm) (k + 1) ms = ys) := by unfold Hid; rw [HS2.out, if_neg hcond, List.append_nil]
                clear HS2
                by_cases hfq : ff = false
                · have hfe : (ff == false) = true := by rw [hfq]; decide
                  have hwe : (WX == (mm : Int)) = false := by
                    rw [beq_eq_false_iff_ne]
                    intro e
                    exact hcond ⟨by rw [hfq]; decide, e⟩
                  clear hcond hfq
                  go_wp2_with fail
                  go_quiet (fail)
                  go_wp2_with fail
                  go_roundw
                  case rel => exact ⟨k + 1, q, l, d, by omega, by go_num, rfl, by unfold Hid; rw [HT.out]; exact HL.out, by rw [HT.out]; exact hoa.below (below_drewN (Below.refl _ _) nq), below_drewN hbb nq⟩
                  case measure => simp [intOf]; omega
                · have hfe : (ff == false) = false := by rw [beq_eq_false_iff_ne]; exact hfq
                  clear hcond hfq
                  go_wp2_with fail
                  go_quiet (fail)
                  go_wp2_with fail
                  go_roundw
                  case rel => exact ⟨k + 1, q, l, d, by omega, by go_num, rfl, by unfold Hid; rw [HT.out]; exact HL.out, by rw [HT.out]; exact hoa.below (below_drewN (Below.refl _ _) nq), below_drewN hbb nq⟩
                  case measure => simp [intOf]; omega
            · obtain rfl : k = n := by omega
              have hki : ¬ (k : Int) < (k : Int) := by omega
              rw [bkU_end _ _ _ _ (by omega)] at ho HL
              go_wp2_with fail
              go_roundw
              case rel => exact ⟨mm + 1, q, l, d, by omega, by go_num, rfl, HL, ho, hb⟩
              case measure => simp [intOf]; omega
        · obtain rfl : mm = 1001 := by omega
          go_wp2_with fail
          go_roundw
          case rel => exact ⟨1, q, l, d, by decide, by go_num, rfl, HL, ho, hb⟩
          case measure => simp [intOf]
    · go_wp2_with fail
      go_loopw [9, 28] (fun v i wr => ∃ (mm : Nat) (q : Option Addr) (l d : Nat), mm ≤ 1001 ∧ i = .int .i64 mm ∧ v = .slice q l d ∧ Hid (l = (bkU (keyW xs i0) (1001 * 1 + mm) 0 ms).length) ∧ Ow .i64 3 wr B0 q l d (bkU (keyW xs i0) (1001 * 1 + mm) 0 ms) ∧ Below B0 w2 wr) (fun _ i _ => 1001 - (intOf i).toNat)
      case atStart => exact ⟨0, q, l, d, Nat.zero_le _, rfl, rfl, HL, ho, hb⟩
      case round =>
        clear HL ho hb
        obtain ⟨mm, q, l, d, hm0, rfl, rfl, HL, ho, hb⟩ := hrel
        have hbW : Below w2.heap.size w2 wr := by rw [hB0]; exact hb
        obtain ⟨_, k1⟩ := (hK2.below hbW).two
        by_cases hm : mm < 1001
        · have hmi : (mm : Int) < 1001 := by omega
          go_wp2_with fail
          go_loopw [9, 34] (fun v i wr => ∃ (k : Nat) (q : Option Addr) (l d : Nat), k ≤ n ∧ i = .int .i64 k ∧ v = .slice q l d ∧ Hid (l = (bkU (keyW xs i0) (1001 * 1 + mm) k ms).length) ∧ Ow .i64 3 wr B0 q l d (bkU (keyW xs i0) (1001 * 1 + mm) k ms) ∧ Below B0 w2 wr) (fun _ i _ => n - (intOf i).toNat)
          case atStart => exact ⟨0, q, l, d, Nat.zero_le _, rfl, rfl, HL, ho, hb⟩
          case round =>
            clear HL ho hb
            obtain ⟨k, q, l, d, hk, rfl, rfl, HL, ho, hb⟩ := hrel
            have hbW : Below w2.heap.size w2 wr := by rw [hB0]; exact hb
            by_cases h : k < n
            · obtain ⟨g1, o1, rfl, c1⟩ := (hr2.below hbW).cells (by omega)
              obtain ⟨x1, x2, x3⟩ := c1 k h
              have hk1 : (k : Int) < (n : Int) := by omega
              have hll : l ≤ n + n := by rw [HL.out]; have := bkU_len (keyW xs i0) (1001 * 1 + mm) k ms; omega
              have HS : Hid (bkU (keyW xs i0) (1001 * 1 + mm) (k + 1) ms = bkU (keyW xs i0) (1001 * 1 + mm) k ms ++ (if keyW xs i0 (ms.getD k .z0) = 1001 * 1 + mm then [(ms.getD k .z0).n] else [])) := bkU_step _ _ _ _ (by omega)
              have HC : Hid (keyW xs i0 (ms.getD k .z0) = 1001 * 1 + mm ↔ ((ms.getD k .z0).f = decide (1 = 1) ∧ wv xs i0 (ms.getD k .z0).s.toNat = (mm : Int))) := key_cond HIN.out 1 mm (by omega) hm
              obtain ⟨j, hj, hjs⟩ := HSI.out _ (getD_mb (fs := ms) (k := k) (by omega))
              have hw5 := (hA2.below hbW).cell (i := i0 * 3 + j) (by rw [HLX.out]; omega)
              have HWV : Hid (wv xs i0 (ms.getD k .z0).s.toNat = xs.getD (i0 * 3 + j) 0) := by unfold Hid; rw [hjs, Int.toNat_natCast]; rfl
              rw [HWV.out] at HC
              rw [hjs] at x2
              generalize xs.getD (i0 * 3 + j) 0 = WX at *
              clear c1 hjs HWV
              have HS2 : Hid (bkU (keyW xs i0) (1001 * 1 + mm) (k + 1) ms = bkU (keyW xs i0) (1001 * 1 + mm) k ms ++ (if ((ms.getD k .z0).f = decide (1 = 1) ∧ WX = (mm : Int)) then [(ms.getD k .z0).n] else [])) := by
                unfold Hid
                rw [HS.out]
                congr 1
                by_cases hc : keyW xs i0 (ms.getD k .z0) = 1001 * 1 + mm
                · rw [if_pos hc, if_pos (HC.out.1 hc)]
                · rw [if_neg hc, if_neg (fun k => hc (HC.out.2 k))]
              clear HS HC
              generalize (ms.getD k .z0).n = fn at *
              generalize (ms.getD k .z0).f = ff at *
              generalize bkU (keyW xs i0) (1001 * 1 + mm) k ms = ys at *
              have hj3 : (j : Int) < 3 := by omega
              have hba : Below wr.heap.size wr (wr.alloc (.cells #[.int .i64 fn, .int .i64 (j : Int), .bool ff] 36)) := (Below.refl _ _).alloc (Nat.le_refl _) _
              have hwa := (hba.cell (p := ⟨w.heap.size + 1, i0 * 3 + j, none⟩) (World.block_lt_of_cell? _ _ hw5)).trans hw5
              have hoa := ho.below hba
              have hbb := hb.trans (hba.mono (by rw [← hB0]; exact hbW.size))
              obtain ⟨d0, d1, d2⟩ := (At.new 36 wr #[.int .i64 fn, .int .i64 (j : Int), .bool ff]).three
              by_cases hcond : ff = decide (1 = 1) ∧ WX = (mm : Int)
              · have HT : Hid (bkU (keyW xs i0) (1001 * 1 + mm) (k + 1) ms = ys ++ [fn]) := by unfold Hid; rw [HS2.out, if_pos hcond]
                obtain ⟨hc1, hc2⟩ := hcond
                have hfe : (ff == true) = true := by rw [hc1]; decide
                have hwe : (WX == (mm : Int)) = true := by rw [hc2]; simp
                clear HS2 hc1 hc2
                go_wp2_with fail
                go_quiet (fail)
                have hob0 := hoa.below (below_drewN (Below.refl _ _) nq)
                have hbb0 := below_drewN hbb nq
                have e0 : (World.drewN (wr.alloc (.cells #[.int .i64 fn, .int .i64 (j : Int), .bool ff] 36)) nq).cell? ⟨wr.heap.size, 0, none⟩ = some (.int .i64 fn) := d0
                generalize hw3 : World.drewN (wr.alloc (.cells #[.int .i64 fn, .int .i64 (j : Int), .bool ff] 36)) nq = w3 at *
                have hob := hob0.below (below_alloc w3 (.cells #[.int .i64 fn] 3))
                have hbc := hbb0.trans ((below_alloc w3 (.cells #[.int .i64 fn] 3)).mono (by rw [← hB0] at hbb0 ⊢; exact hbb0.size))
                have hone := Rd.one .i64 w3 3 fn
                clear hw3 hob0 hoa
                go_wp2_with (at_builtin; refine wpList_app _ rfl (.tmp 52) (.tmp 55) 37 rfl .i64 3 i1 (.int .i64 0) 8 Try.underlying37 hi1 hz0 hz1 hz2 rfl B0 q l d ys rfl hob _ 1 1 [fn] rfl hone ?d1 ?d2 ?d3 ?_)
                case d1 => omega
                case d2 => unfold maxLen; omega
                case d3 => rw [← hB0] at hbc ⊢; exact hbc.size
                intro p2 c2 w4 ho2 hb3
                go_wp2_with fail
                have hfin : ∃ (k' : Nat) (q' : Option Addr) (l' d' : Nat), k' ≤ n ∧ Value.int .i64 ((k : Int) + 1) = .int .i64 (k' : Int) ∧ Value.slice p2 (l + 1) c2 = .slice q' l' d' ∧ Hid (l' = (bkU (keyW xs i0) (1001 * 1 + mm) k' ms).length) ∧ Ow .i64 3 w4 B0 q' l' d' (bkU (keyW xs i0) (1001 * 1 + mm) k' ms) ∧ Below B0 w2 w4 :=
                  ⟨k + 1, p2, l + 1, c2, by omega, by go_num, rfl, by unfold Hid; rw [HT.out, List.length_append, ← HL.out]; rfl, by rw [HT.out]; exact ho2, hbc.trans hb3⟩
                refine ⟨⟨_, _, _, _, _, _, _, _, _, _, _, _, _, _, _, _, _, _, _, _, _, _, _, _, _, _, hfin, rfl⟩, ?_⟩
                simp [intOf]
                omega
              · have HT : Hid (bkU (keyW xs i0) (1001 * 1 + mm) (k + 1) ms = ys) := by unfold Hid; rw [HS2.out, if_neg hcond, List.append_nil]
                clear HS2
                by_cases hfq : ff = true
                · have hfe : (ff == true) = true := by rw [hfq]; decide
                  have hwe : (WX == (mm : Int)) = false := by
                    rw [beq_eq_false_iff_ne]
                    intro e
                    exact hcond ⟨by rw [hfq]; decide, e⟩
                  clear hcond hfq
                  go_wp2_with fail
                  go_quiet (fail)
                  go_wp2_with fail
                  go_roundw
                  case rel => exact ⟨k + 1, q, l, d, by omega, by go_num, rfl, by unfold Hid; rw [HT.out]; exact HL.out, by rw [HT.out]; exact hoa.below (below_drewN (Below.refl _ _) nq), below_drewN hbb nq⟩
                  case measure => simp [intOf]; omega
                · have hfe : (ff == true) = false := by rw [beq_eq_false_iff_ne]; exact hfq
                  clear hcond hfq
                  go_wp2_with fail
                  go_quiet (fail)
                  go_wp2_with fail
                  go_roundw
                  case rel => exact ⟨k + 1, q, l, d, by omega, by go_num, rfl, by unfold Hid; rw [HT.out]; exact HL.out, by rw [HT.out]; exact hoa.below (below_drewN (Below.refl _ _) nq), below_drewN hbb nq⟩
                  case measure => simp [intOf]; omega
            · obtain rfl : k = n := by omega
              have hki : ¬ (k : Int) < (k : Int) := by omega
              rw [bkU_end _ _ _ _ (by omega)] at ho HL
              go_wp2_with fail
              go_roundw
              case rel => exact ⟨mm + 1, q, l, d, by omega, by go_num, rfl, HL, ho, hb⟩
              case measure => simp [intOf]; omega
        · obtain rfl : mm = 1001 := by omega
          go_wp2_with fail
          go_roundw
          case rel => exact ⟨2, q, l, d, by decide, by go_num, rfl, HL, ho, hb⟩
          case measure => simp [intOf]
    · have hl2 : l = n := by rw [HL.out, ← HSR.out, List.length_map, HLN.out]
      rw [← HSR.out] at ho
      have hrd := ho.rd
      subst hl2
      have hbz := hb2.trans (hb.mono (by rw [← hB0]; exact hb2.size))
      clear HL ho hb hB0
      go_wp2_with fail
      go_ret2
      exact ⟨q, d, rfl, hrd, hbz⟩

end Go.Proofs.Ytdjeafaaclhpkaa.M
