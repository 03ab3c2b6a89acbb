/-
  Own text: the walk of the statement 'RouteEach'.
-/
import Derived.Test.YtdjeafaaclhpkaaZEachP
import Derived.Test.YtdjeafaaclhpkaaZBoth
import Derived.Test.YtdjeafaaclhpkaaZGiven
namespace Go.Proofs.Ytdjeafaaclhpkaa.M
open Go.ChangeShapes Go.WideShapes Go.ChangeAt Go.RowKit

theorem At.stays (t : TypeId) (g : Nat) (cs : Array Value) : Stays fun W => At t W g cs := fun _ _ h hb => h.below hb

/-- Nothing ahead was touched, and a member stands in a box. -/
def Bl2 (w : World) (x : Nat) (xn : Int) (xs : Nat) (xf : Bool) (W : World) : Prop := Below w.heap.size w W ∧ At 36 W x #[.int .i64 xn, .int .i64 (xs : Int), .bool xf]

theorem Bl2.stays (w : World) (x : Nat) (xn : Int) (xs : Nat) (xf : Bool) : Stays (Bl2 w x xn xs xf) := fun _ _ h hb => ⟨h.1.trans (hb.mono h.1.size), h.2.below hb⟩

theorem Bl2.put {w V : World} {x : Nat} {vs : List Value} (h : Below w.heap.size w V) (hx : w.heap.size ≤ x) : Below w.heap.size w (V.setCells x 0 vs) := below_setC hx vs 0 V h

theorem mb_set {V : World} {x : Nat} {a b c : Value} {t : TypeId} (h : At t V x #[a, b, c]) (xn : Int) (xs : Nat) (xf : Bool) : At t (V.setCells x 0 [.int .i64 xn, .int .i64 (xs : Int), .bool xf]) x #[.int .i64 xn, .int .i64 (xs : Int), .bool xf] := by
  unfold At at *
  have h1 := heap_setCell_same V x 0 _ _ (.int .i64 xn) h
  have h2 := heap_setCell_same _ x 1 _ _ (.int .i64 (xs : Int)) h1
  have h3 := heap_setCell_same _ x 2 _ _ (.bool xf) h2
  exact h3

set_option linter.unusedSimpArgs false in
set_option maxRecDepth 20000 in
set_option maxHeartbeats 4000000 in
theorem walk_RouteEach (w : World) (e : Int) (p : Option Addr) (n c : Nat) (ms : List Mb) (hr : RdM w p n c ms) (hn : n ≤ 5864062014805) (a0 a1 a2 a3 a4 a5 a6 a7 a8 st : Int) :
    Calls Try.prog 8 #[.agg #[.int .i64 e, .slice p n c], .agg #[.int .i64 a0, .int .i64 a1, .int .i64 a2, .int .i64 a3, .int .i64 a4, .int .i64 a5, .int .i64 a6, .int .i64 a7, .int .i64 a8], .int .i64 st] w fun r w' => r = .returned (.bool true) ∧ Below w.heap.size w w' := by
  have hb0 : Below w.heap.size w ((w.alloc (.cells #[.int .i64 e, .slice p n c] 33)).alloc (.cells #[.int .i64 a0, .int .i64 a1, .int .i64 a2, .int .i64 a3, .int .i64 a4, .int .i64 a5, .int .i64 a6, .int .i64 a7, .int .i64 a8] 24)) := ((Below.refl _ _).alloc (Nat.le_refl _) _).alloc (by simp) _
  have hA : ArrI 24 .i64 ((w.alloc (.cells #[.int .i64 e, .slice p n c] 33)).alloc (.cells #[.int .i64 a0, .int .i64 a1, .int .i64 a2, .int .i64 a3, .int .i64 a4, .int .i64 a5, .int .i64 a6, .int .i64 a7, .int .i64 a8] 24)) (w.heap.size + 1) [a0, a1, a2, a3, a4, a5, a6, a7, a8] := new_at (by simp) (nine_cells (t := 24) (w.alloc (.cells #[.int .i64 e, .slice p n c] 33)) a0 a1 a2 a3 a4 a5 a6 a7 a8)
  have hK : At 33 ((w.alloc (.cells #[.int .i64 e, .slice p n c] 33)).alloc (.cells #[.int .i64 a0, .int .i64 a1, .int .i64 a2, .int .i64 a3, .int .i64 a4, .int .i64 a5, .int .i64 a6, .int .i64 a7, .int .i64 a8] 24)) w.heap.size #[.int .i64 e, .slice p n c] := (At.new 33 w #[.int .i64 e, .slice p n c]).alloc _
  have hl := hr.len
  have hr0 := hr.below hb0
  have hW := fun W => awake_any W
  by_cases hnm : 60 < n
  · have hni : (60 : Int) < (n : Int) := by omega
    clear hr hr0 hA hK
    go_enter Try.func8, Try.ntmps8
    go_wp2_with fail
    refine (hW _).mono ?_
    rintro r w1 ⟨rfl, hb1⟩
    go_wp2_with fail
    go_ret
    exact ⟨rfl, hb0.trans (hb1.mono hb0.size)⟩
  have hni : ¬ (60 : Int) < (n : Int) := by omega
  by_cases h : mayR e ms [a0, a1, a2, a3, a4, a5, a6, a7, a8] st = 0
  · obtain ⟨hk, hw, i0, hi0, rfl⟩ := may_zero h
    have hin := okW_in (B9 := [a0, a1, a2, a3, a4, a5, a6, a7, a8]) rfl hw
    have hpos := chk_pos hk
    have g1 := Near_ok e p n c ms a0 a1 a2 a3 a4 a5 a6 a7 a8 i0 hi0 hk hw _ hr0 hn
    have HPm : Hid ((srt (nrC [a0, a1, a2, a3, a4, a5, a6, a7, a8] i0) ms).Perm ms) := srt_perm _ _
    have HLn : Hid ((srt (nrC [a0, a1, a2, a3, a4, a5, a6, a7, a8] i0) ms).length = n) := by unfold Hid; rw [srt_len]; exact hl
    have HFar : Hid (∀ k, k < n → ((srt (nrC [a0, a1, a2, a3, a4, a5, a6, a7, a8] i0) ms).getD k .z0).f = false → ¬ wv [a0, a1, a2, a3, a4, a5, a6, a7, a8] i0 ((srt (nrC [a0, a1, a2, a3, a4, a5, a6, a7, a8] i0) ms).getD k .z0).s.toNat < farF [a0, a1, a2, a3, a4, a5, a6, a7, a8] i0 (-1) ((srt (nrC [a0, a1, a2, a3, a4, a5, a6, a7, a8] i0) ms).take k)) := fun k hk2 hf => far_ok hin i0 ms (by rw [HLn.out]; exact hk2) hf
    have HSe : Hid (∀ k, k < n → hasN (thN (fun _ => true) 0 ((srt (nrC [a0, a1, a2, a3, a4, a5, a6, a7, a8] i0) ms).take k)) ((srt (nrC [a0, a1, a2, a3, a4, a5, a6, a7, a8] i0) ms).getD k .z0).n = false) := fun k hk2 => seen_no hk HPm.out (by rw [HLn.out]; exact hk2)
    have HMe : Hid (∀ k, k < n → ∃ i j : Nat, plc e ms ((srt (nrC [a0, a1, a2, a3, a4, a5, a6, a7, a8] i0) ms).getD k .z0).n = (i : Int) ∧ i < n ∧ ms.getD i .z0 = (srt (nrC [a0, a1, a2, a3, a4, a5, a6, a7, a8] i0) ms).getD k .z0 ∧ j < 3 ∧ ((srt (nrC [a0, a1, a2, a3, a4, a5, a6, a7, a8] i0) ms).getD k .z0).s = (j : Int)) := fun k hk2 => by
      have hm := HPm.out.mem_iff.1 (getD_mb (fs := srt (nrC [a0, a1, a2, a3, a4, a5, a6, a7, a8] i0) ms) (k := k) (by rw [HLn.out]; exact hk2))
      obtain ⟨i, h1, h2, h3⟩ := plc_of hk hm
      obtain ⟨j, h4, h5⟩ := chk_site hk hm
      exact ⟨i, j, h1, by omega, h3, h4, h5⟩
    have HTh : Hid (thN (fun _ => true) 0 (srt (nrC [a0, a1, a2, a3, a4, a5, a6, a7, a8] i0) ms) = thN (fun _ => true) 0 ms) := thN_perm HPm.out
    have HIN : Hid (inW [a0, a1, a2, a3, a4, a5, a6, a7, a8]) := hin
    have HLX : Hid ([a0, a1, a2, a3, a4, a5, a6, a7, a8].length = 9) := rfl
    have hC := fun W hq => Check_any e p n c ms W hq hn
    rw [hk] at hC
    unfold chkV at hC
    simp only [if_true] at hC
    clear hr h hk hw hin HPm
    generalize srt (nrC [a0, a1, a2, a3, a4, a5, a6, a7, a8] i0) ms = L at *
    generalize [a0, a1, a2, a3, a4, a5, a6, a7, a8] = ws at *
    go_enter Try.func8, Try.ntmps8
    go_wp2_with fail
    refine g1.mono ?_
    rintro r w1 ⟨q, d, rfl, hrL, _, hb1⟩
    have hbb := hb0.trans (hb1.mono hb0.size)
    replace hA := hA.below hb1
    replace hK := hK.below hb1
    replace hr0 := hr0.below hb1
    obtain ⟨k0, k1⟩ := hK.two
    have g2 := hC _ hr0
    have hz : RdM w1 none 0 0 [] := ⟨rfl, Nat.le_refl _, fun _ => rfl, fun h => absurd h (Nat.lt_irrefl _)⟩
    have hn0 : ((n : Int) == 0) = false := by rw [beq_eq_false_iff_ne]; omega
    clear g1 hb1 hb0 hC
    go_wp2_with fail
    refine g2.mono ?_
    rintro r w2 ⟨rfl, hb2⟩
    have hbc := hbb.trans (hb2.mono hbb.size)
    replace hA := hA.below hb2
    replace hK := hK.below hb2
    replace hr0 := hr0.below hb2
    replace hrL := hrL.below hb2
    replace hz := hz.below hb2
    have g3 := Nodes_any 0 none 0 0 [] w2 hz (by decide)
    clear g2 hb2 hbb k0 k1
    obtain ⟨k0, k1⟩ := hK.two
    go_wp2_with fail
    refine g3.mono ?_
    rintro r w3 ⟨rfl, hb3⟩
    have hbd := hbc.trans (hb3.mono hbc.size)
    replace hA := hA.below hb3
    replace hK := hK.below hb3
    replace hr0 := hr0.below hb3
    replace hrL := hrL.below hb3
    clear g3 hb3 hbc k0 k1
    have e0 : thN (fun _ => true) 0 [] = 0 := rfl
    rw [e0]
    clear e0
    go_wp2_with fail
    generalize hB : w3.heap.size = B at *
    go_loopw [9, 10, 47] (fun x f i wr => ∃ k : Nat, k ≤ n ∧ i = .int .i64 k ∧ x = .int .u64 ((thN (fun _ => true) 0 (L.take k) : Nat) : Int) ∧ f = .int .i64 (farF ws i0 (-1) (L.take k)) ∧ Below B w3 wr) (fun _ _ i _ => n - (intOf i).toNat)
    case atStart => exact ⟨0, Nat.zero_le _, rfl, rfl, rfl, Below.refl _ _⟩
    case round =>
      obtain ⟨k, hkn, rfl, rfl, rfl, hb⟩ := hrel
      have hbW : Below w3.heap.size w3 wr := by rw [hB]; exact hb
      have hKr := hK.below hbW
      obtain ⟨k0, k1⟩ := hKr.two
      by_cases hkk : k < n
      · obtain ⟨gl, ol, rfl, hcl⟩ := (hrL.below hbW).cells (by omega)
        have y0 := hcl k hkk
        obtain ⟨ix, xs, hpl, hixn, hmx, hx3, hxs⟩ := HMe.out k hkk
        have hfar := HFar.out k hkk
        have hse := HSe.out k hkk
        have HT1 : Hid (thN (fun _ => true) 0 (L.take (k + 1)) = thN (fun _ => true) 0 (L.take k) ||| bitN (L.getD k .z0).n) := by
          unfold Hid
          rw [List.take_add_one, List.getElem?_eq_getElem (by rw [HLn.out]; exact hkk), List.getD_eq_getElem?_getD, List.getElem?_eq_getElem (by rw [HLn.out]; exact hkk)]
          exact thN_snoc _ _ _
        have HF1 : Hid (farF ws i0 (-1) (L.take (k + 1)) = if (L.getD k .z0).f then farF ws i0 (-1) (L.take k) else wv ws i0 (L.getD k .z0).s.toNat) := by
          unfold Hid
          rw [List.take_add_one, List.getElem?_eq_getElem (by rw [HLn.out]; exact hkk), List.getD_eq_getElem?_getD, List.getElem?_eq_getElem (by rw [HLn.out]; exact hkk)]
          exact farF_snoc _ _ _ _ _
        have hyv : (L.map (·.n)).getD k 0 = (L.getD k .z0).n := by
          rw [List.getD_eq_getElem?_getD, List.getD_eq_getElem?_getD, List.getElem?_map, List.getElem?_eq_getElem (by rw [HLn.out]; exact hkk)]
          rfl
        rw [hyv] at y0
        have hrr := hr0.below hbW
        obtain ⟨gb, go, hpe, hcm⟩ := hrr.cells (by omega)
        obtain ⟨x1, x2, x3⟩ := hcm ix hixn
        rw [hmx] at x1 x2 x3
        rw [hxs] at x2 hfar HF1
        rw [Int.toNat_natCast] at hfar HF1
        have wc := (hA.below hbW).cell (i := i0 * 3 + xs) (by rw [HLX.out]; omega)
        change _ = some (Value.int .i64 (wv ws i0 xs)) at wc
        have hXl := thN_lt (fun _ => true) (L.take k) 0 (by decide)
        have hH := fun W => has_any (thN (fun _ => true) 0 (L.take k)) (L.getD k .z0).n W hXl
        rw [hse] at hH
        have hWi := fun W => with_any (thN (fun _ => true) 0 (L.take k)) (L.getD k .z0).n W hXl
        rw [← HT1.out] at hWi
        have cP := fun W (h : Bl wr W) => Place_any e p n c ms (L.getD k .z0).n W (hrr.below h) hn
        rw [hpl] at cP
        have hi3 : (i0 : Int) < 3 := by omega
        have hx3i : (xs : Int) < 3 := by omega
        have hixi : (ix : Int) < (n : Int) := by omega
        have hki : (k : Int) < (n : Int) := by omega
        have hn1 : IntKind.i64.wrap ((n : Int) - 1) = (n : Int) - 1 := by rw [IntKind.wrap_i64]; omega
        have hm1 : ¬ (n : Int) - 1 < (ix : Int) := by omega
        clear hcl hcm hse hpl hmx hxs hyv HT1
        cases hpe
        generalize (L.getD k .z0).n = xn at *
        generalize (L.getD k .z0).f = xf at *
        generalize thN (fun _ => true) 0 (L.take k) = X at *
        generalize farF ws i0 (-1) (L.take k) = FA at *
        generalize wv ws i0 xs = WV at *
        go_wp2_with fail
        have hS0 : Bl wr wr.drew := (Below.refl _ _).drew
        refine wp_region_det [0, 1, 2, 3, 4, 5, 6, 7, 8, 9, 10, 11, 12] (Bl wr) (Bl wr) (by kernel_rfl) hS0 ?_
        refine wpDet_take ?vE0 (Bl.stays wr) (fun _ h => h) (i := 0) rfl (by kernel_rfl) (by kernel_rfl) (by kernel_rfl) (by kernel_rfl) (fun _ _ _ h => h) (Gives.value (by rfl) ?yE0) ?rE0
        case yE0 => (intro w' hSw; (try dsimp only at hSw); go_simp; try with_reducible rfl)
        (try simp only [Act.put, List.getElem_toArray, List.getElem_cons_zero, List.getElem_cons_succ, List.setIfInBounds_toArray, List.set_cons_zero, List.set_cons_succ])
        refine wpDet_take ?vE1 (Bl.stays wr) (fun _ h => h) (i := 1) rfl (by kernel_rfl) (by kernel_rfl) (by kernel_rfl) (by kernel_rfl) (fun _ _ _ h => h) (Gives.value (by rfl) ?yE1) ?rE1
        case yE1 => (intro w' hSw; have za0 := cell_below hSw k0; have za1 := cell_below hSw k1; (try dsimp only at hSw); go_simp; try with_reducible rfl)
        (try simp only [Act.put, List.getElem_toArray, List.getElem_cons_zero, List.getElem_cons_succ, List.setIfInBounds_toArray, List.set_cons_zero, List.set_cons_succ])
        refine wpDet_take ?vE2 (Bl.stays wr) (fun _ h => h) (i := 2) rfl (by kernel_rfl) (by kernel_rfl) (by kernel_rfl) (by kernel_rfl) (fun _ _ _ h => h) (Gives.value (by rfl) ?yE2) ?rE2
        case yE2 => (intro w' hSw; have za0 := cell_below hSw k0; have za1 := cell_below hSw k1; (try dsimp only at hSw); go_simp; try with_reducible rfl)
        (try simp only [Act.put, List.getElem_toArray, List.getElem_cons_zero, List.getElem_cons_succ, List.setIfInBounds_toArray, List.set_cons_zero, List.set_cons_succ])
        refine wpDet_take ?vE3 (Bl.stays wr) (fun _ h => h) (i := 3) rfl (by kernel_rfl) (by kernel_rfl) (by kernel_rfl) (by kernel_rfl) (fun _ _ _ h => h) (Gives.value (by rfl) ?yE3) ?rE3
        case yE3 => (intro w' hSw; (try dsimp only at hSw); go_simp; try with_reducible rfl)
        (try simp only [Act.put, List.getElem_toArray, List.getElem_cons_zero, List.getElem_cons_succ, List.setIfInBounds_toArray, List.set_cons_zero, List.set_cons_succ])
        refine wpDet_take (.int .i64 (ix : Int)) (Bl.stays wr) (fun _ h => h) (i := 4) rfl (by kernel_rfl) (by kernel_rfl) (by kernel_rfl) (by kernel_rfl) (fun _ _ _ h => h) (Gives.call 27 #[.agg #[.int .i64 e, .slice (some ⟨gb, go, none⟩) n c], .int .i64 xn] (by rfl) (fun _ => by first | (go_simp; done) | (go_simp; rfl)) (fun W hW => cP W hW)) ?_
        (try simp only [Act.put, List.getElem_toArray, List.getElem_cons_zero, List.getElem_cons_succ, List.setIfInBounds_toArray, List.set_cons_zero, List.set_cons_succ])
        refine wpDet_take (.int .i64 (ix : Int)) (Bl.stays wr) (fun _ h => h) (i := 5) rfl (by kernel_rfl) (by kernel_rfl) (by kernel_rfl) (by kernel_rfl) (fun _ _ _ h => h) (Gives.value (by rfl) ?yE5) ?rE5
        case yE5 => (intro w' hSw; have za0 := cell_below hSw k0; have za1 := cell_below hSw k1; (try dsimp only at hSw); go_simp; intros; omega)
        (try simp only [Act.put, List.getElem_toArray, List.getElem_cons_zero, List.getElem_cons_succ, List.setIfInBounds_toArray, List.set_cons_zero, List.set_cons_succ])
        refine wpDet_take ?vE6 (Bl.stays wr) (fun _ h => h) (i := 6) rfl (by kernel_rfl) (by kernel_rfl) (by kernel_rfl) (by kernel_rfl) (fun _ _ _ h => h) (Gives.value (by rfl) ?yE6) ?rE6
        case yE6 => (intro w' hSw; (try dsimp only at hSw); go_simp; try with_reducible rfl)
        (try simp only [Act.put, List.getElem_toArray, List.getElem_cons_zero, List.getElem_cons_succ, List.setIfInBounds_toArray, List.set_cons_zero, List.set_cons_succ])
        refine wpDet_take ?vE7 (Bl.stays wr) (fun _ h => h) (i := 7) rfl (by kernel_rfl) (by kernel_rfl) (by kernel_rfl) (by kernel_rfl) (fun _ _ _ h => h) (Gives.value (by rfl) ?yE7) ?rE7
        case yE7 => (intro w' hSw; have za0 := cell_below hSw k0; have za1 := cell_below hSw k1; (try dsimp only at hSw); go_simp; try with_reducible rfl)
        (try simp only [Act.put, List.getElem_toArray, List.getElem_cons_zero, List.getElem_cons_succ, List.setIfInBounds_toArray, List.set_cons_zero, List.set_cons_succ])
        refine wpDet_take ?vE8 (Bl.stays wr) (fun _ h => h) (i := 8) rfl (by kernel_rfl) (by kernel_rfl) (by kernel_rfl) (by kernel_rfl) (fun _ _ _ h => h) (Gives.value (by rfl) ?yE8) ?rE8
        case yE8 => (intro w' hSw; have za0 := cell_below hSw k0; have za1 := cell_below hSw k1; (try dsimp only at hSw); go_simp; try with_reducible rfl)
        (try simp only [Act.put, List.getElem_toArray, List.getElem_cons_zero, List.getElem_cons_succ, List.setIfInBounds_toArray, List.set_cons_zero, List.set_cons_succ])
        refine wpDet_take (.int .i64 ((n : Int) - 1)) (Bl.stays wr) (fun _ h => h) (i := 9) rfl (by kernel_rfl) (by kernel_rfl) (by kernel_rfl) (by kernel_rfl) (fun _ _ _ h => h) (Gives.value (by rfl) ?yE9) ?rE9
        case yE9 => (intro w' hSw; have za0 := cell_below hSw k0; have za1 := cell_below hSw k1; (try dsimp only at hSw); go_simp; try with_reducible rfl)
        (try simp only [Act.put, List.getElem_toArray, List.getElem_cons_zero, List.getElem_cons_succ, List.setIfInBounds_toArray, List.set_cons_zero, List.set_cons_succ])
        refine wpDet_take (.int .i64 (ix : Int)) (Bl.stays wr) (fun _ h => h) (i := 10) rfl (by kernel_rfl) (by kernel_rfl) (by kernel_rfl) (by kernel_rfl) (fun _ _ _ h => h) (Gives.value (by rfl) ?yE10) ?rE10
        case yE10 => (intro w' hSw; have za0 := cell_below hSw k0; have za1 := cell_below hSw k1; (try dsimp only at hSw); go_simp; intros; omega)
        (try simp only [Act.put, List.getElem_toArray, List.getElem_cons_zero, List.getElem_cons_succ, List.setIfInBounds_toArray, List.set_cons_zero, List.set_cons_succ])
        refine wpDet_take ?vE11 (Bl.stays wr) (fun _ h => h) (i := 11) rfl (by kernel_rfl) (by kernel_rfl) (by kernel_rfl) (by kernel_rfl) (fun _ _ _ h => h) (Gives.value (by rfl) ?yE11) ?rE11
        case yE11 => (intro w' hSw; (try dsimp only at hSw); go_simp; try with_reducible rfl)
        (try simp only [Act.put, List.getElem_toArray, List.getElem_cons_zero, List.getElem_cons_succ, List.setIfInBounds_toArray, List.set_cons_zero, List.set_cons_succ])
        refine wpDet_take ?vE12 (Bl.stays wr) (fun _ h => h) (i := 12) rfl (by kernel_rfl) (by kernel_rfl) (by kernel_rfl) (by kernel_rfl) (fun _ _ _ h => h) (Gives.value (by rfl) ?yE12) ?rE12
        case yE12 => (intro w' hSw; have y1 := cell_below hSw x1; have y2 := cell_below hSw x2; have y3 := cell_below hSw x3; (try dsimp only at hSw); go_simp; try with_reducible rfl)
        (try simp only [Act.put, List.getElem_toArray, List.getElem_cons_zero, List.getElem_cons_succ, List.setIfInBounds_toArray, List.set_cons_zero, List.set_cons_succ])
        refine wpDet_ready (rs := [13]) (by kernel_rfl) (by simp) (AllDet.cons rfl (fun V hV K hK => ?_) AllDet.nil)
        rw [if_pos (by rfl)]
        refine wp_value (.pointer (some ⟨V.heap.size, 0, none⟩)) (V.alloc (.cells #[.int .i64 0, .int .i64 0, .bool false] 36)) (by first | (go_simp; done) | (go_simp; rfl)) ?_
        have hxl : wr.heap.size ≤ V.heap.size := (Bl.out hV).size
        refine hK.out (fun W => Bl wr W ∧ At 36 W V.heap.size #[.int .i64 0, .int .i64 0, .bool false]) _ _ ((Bl.stays wr).and (At.stays _ _ _)) (fun _ _ h => h.1) ⟨Bl.stays wr V _ hV (below_alloc _ _), At.new _ _ _⟩ ?_
        clear hK K hV
        generalize V.heap.size = xb at *
        (try simp only [Act.put, List.getElem_toArray, List.getElem_cons_zero, List.getElem_cons_succ, List.setIfInBounds_toArray, List.set_cons_zero, List.set_cons_succ])
        refine wpDet_ready (rs := [14]) (by kernel_rfl) (by simp) (AllDet.cons rfl (fun V hV K hK => ?_) AllDet.nil)
        rw [if_pos (by rfl)]
        have hth : V.there xb 0 3 := fun j hj => by rw [Nat.zero_add]; match j, hj with | 0, _ => exact ⟨by rw [hV.2.cell 0]; rfl, hV.2.free 0⟩ | 1, _ => exact ⟨by rw [hV.2.cell 1]; rfl, hV.2.free 1⟩ | 2, _ => exact ⟨by rw [hV.2.cell 2]; rfl, hV.2.free 2⟩
        refine wp_store_mid 36 _ _ rfl xb 0 #[.int .i64 xn, .int .i64 (xs : Int), .bool xf] rfl rfl hth sizeM (by simp [Value.oneCell']) ?_
        have hz : Bl2 wr xb xn xs xf (V.setCells xb 0 [.int .i64 xn, .int .i64 (xs : Int), .bool xf]) := ⟨Bl2.put (Bl.out hV.1) hxl, mb_set hV.2 xn xs xf⟩
        refine hK.out (Bl2 wr xb xn xs xf) _ _ (Bl2.stays _ _ _ _ _) (no_lean (by kernel_rfl)) hz ?_
        clear hK K hV hth hz
        (try simp only [Act.put, List.getElem_toArray, List.getElem_cons_zero, List.getElem_cons_succ, List.setIfInBounds_toArray, List.set_cons_zero, List.set_cons_succ])
        refine wpDet_done (by kernel_rfl) (fun W3 hV => ?_) _
        obtain ⟨hb3, hM⟩ := hV
        have hbx := hb.trans (hb3.mono (by rw [← hB]; exact hbW.size))
        obtain ⟨d0, d1, d2⟩ := hM.three
        have wd := cell_below hb3 wc
        have hxx : (xn != xn) = false := by simp
        clear cP x1 x2 x3 y0 k0 k1 wc hS0 hrr hKr hM hxl
        cases xf with
        | true =>
          have HF2 : Hid (farF ws i0 (-1) (L.take (k + 1)) = FA) := HF1.out
          clear HF1 hfar
          go_wp2_with fail
          go_quiet ((go_at_call 28; exact Calls.quiet_of_same (hH _)))
          go_wp2_with fail
          refine (hWi _).mono ?_
          rintro r w5 ⟨rfl, hw5⟩
          subst hw5
          go_wp2_with fail
          go_roundw
          case rel => exact ⟨k + 1, by omega, by go_num, rfl, by rw [HF2.out], below_drewN hbx nq⟩
          case measure => simp [intOf]; omega
        | false =>
          have HF2 : Hid (farF ws i0 (-1) (L.take (k + 1)) = WV) := HF1.out
          have hfd : decide (WV < FA) = false := decide_eq_false (by have := hfar rfl; omega)
          clear HF1 hfar
          go_wp2_with fail
          go_quiet ((go_at_call 28; exact Calls.quiet_of_same (hH _)))
          go_wp2_with fail
          go_quiet (fail)
          go_wp2_with fail
          refine (hWi _).mono ?_
          rintro r w5 ⟨rfl, hw5⟩
          subst hw5
          go_wp2_with fail
          go_roundw
          case rel => exact ⟨k + 1, by omega, by go_num, rfl, by rw [HF2.out], below_drewN hbx _⟩
          case measure => simp [intOf]; omega
      · obtain rfl : k = n := by omega
        have hki : ¬ (k : Int) < (k : Int) := by omega
        have hx : thN (fun _ => true) 0 (L.take k) = thN (fun _ => true) 0 ms := by rw [List.take_of_length_le (by rw [HLn.out]; exact Nat.le_refl _), HTh.out]
        rw [hx]
        have g4 := Nodes_any e p k c ms wr (hr0.below hbW) hn
        have hbz := hbd.trans (hb.mono (by rw [← hB]; exact hbd.size))
        generalize thN (fun _ => true) 0 ms = X at *
        have hXX : ((X : Int) == (X : Int)) = true := by simp
        clear hx HTh HFar HSe HMe HIN HLX HLn hrL hr0 hA hK hKr hbd hb hbW
        go_wp2_with fail
        refine g4.mono ?_
        rintro r w6 ⟨rfl, hb6⟩
        have hby := hbz.trans (hb6.mono hbz.size)
        go_wp2_with fail
        refine (hW _).mono ?_
        rintro r w7 ⟨rfl, hb7⟩
        go_wp2_with fail
        go_ret
        exact ⟨rfl, hby.trans (hb7.mono hby.size)⟩
  · have g1 := Near_no e p n c ms a0 a1 a2 a3 a4 a5 a6 a7 a8 st _ rfl h _ hr0 hn
    have hEb : (mayR e ms [a0, a1, a2, a3, a4, a5, a6, a7, a8] st != 0) = true := by simp [h]
    generalize mayR e ms [a0, a1, a2, a3, a4, a5, a6, a7, a8] st = E at *
    clear hr hr0 hA hK h
    go_enter Try.func8, Try.ntmps8
    go_wp2_with fail
    refine g1.mono ?_
    rintro r w1 ⟨rfl, hb1⟩
    have hbb := hb0.trans (hb1.mono hb0.size)
    go_wp2_with fail
    refine (hW _).mono ?_
    rintro r w2 ⟨rfl, hb2⟩
    go_wp2_with fail
    go_ret
    exact ⟨rfl, hbb.trans (hb2.mono hbb.size)⟩

end Go.Proofs.Ytdjeafaaclhpkaa.M
