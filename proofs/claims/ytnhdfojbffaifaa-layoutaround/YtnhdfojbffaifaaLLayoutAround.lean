/-
  Own text: the walk of the law LayoutAround.
-/
import Derived.Test.YtnhdfojbffaifaaYAround
import Derived.Test.YtnhdfojbffaifaaYPop
import Derived.Deep.LoopGhost
namespace Go.Proofs.Ytnhdfojbffaifaa.M
open Go.ChangeShapes Go.WideShapes Go.ChangeAt Go.RowKit

theorem pop_lack : ∀ x, x < 64 → pop x + lack x = 6 := by decide +kernel

theorem popN_all {ms : List Mb} (h : goC 0 0 ms = true) : pop (allN ms) = ms.length := by
  have h1 := goC_lack ms 0 0 h
  have h2 : lack 0 = 6 := by decide
  have h3 := pop_lack (allN ms) (thN_small ms 0 0 h (by decide))
  unfold allN at *
  omega

set_option maxRecDepth 20000 in
set_option maxHeartbeats 2000000 in
theorem walk_LayoutAround (w : World) (e : Int) (p : Option Addr) (n c : Nat) (ms : List Mb) (hr : RdM w p n c ms) (hn : n ≤ 5864062014805) :
    Calls Try.prog 8 #[.agg #[.int .i64 e, .slice p n c]] w fun r w' => r = .returned (.bool true) ∧ Below w.heap.size w w' := by
  have hb0 : Below w.heap.size w (w.alloc (.cells #[.int .i64 e, .slice p n c] 24)) := (Below.refl _ _).alloc (Nat.le_refl _) _
  have a0 : (w.alloc (.cells #[.int .i64 e, .slice p n c] 24)).cell? ⟨w.heap.size, 0, none⟩ = some (.int .i64 e) := by simp
  have a1 : (w.alloc (.cells #[.int .i64 e, .slice p n c] 24)).cell? ⟨w.heap.size, 1, none⟩ = some (.slice p n c) := by simp
  have hl := hr.len
  have hr0 := hr.below hb0
  have hC := Check_any e p n c ms _ hr0 hn
  unfold chkV at hC
  clear hr
  go_enter Try.func8, Try.ntmps8
  go_wp2_with fail
  generalize (w.alloc (.cells #[.int .i64 e, .slice p n c] 24)) = w0 at *
  refine hC.mono ?_
  rintro r w1 ⟨rfl, hb1⟩
  have hB1 := hb0.trans (hb1.mono hb0.size)
  have hr1 := hr0.below hb1
  replace a0 := (hb1.cell (p := ⟨w.heap.size, 0, none⟩) (World.block_lt_of_cell? _ _ a0)).trans a0
  replace a1 := (hb1.cell (p := ⟨w.heap.size, 1, none⟩) (World.block_lt_of_cell? _ _ a1)).trans a1
  clear hC hb0 hb1 hr0
  cases hk : chk e ms with
  | false =>
    have hH := Head_any e p n c ms _ hr1 hn
    have eH : ∀ k, endM e ms k = -1 := fun k => by unfold endM; rw [hk]; rfl
    rw [eH] at hH
    simp only [Bool.false_eq_true, if_false]
    go_wp2_with fail
    refine hH.mono ?_
    rintro r w2 ⟨rfl, hb2⟩
    have hB2 := hB1.trans (hb2.mono hB1.size)
    have hT := Tail_any e p n c ms _ (hr1.below hb2) hn
    rw [eH] at hT
    replace a0 := (hb2.cell (p := ⟨w.heap.size, 0, none⟩) (World.block_lt_of_cell? _ _ a0)).trans a0
    replace a1 := (hb2.cell (p := ⟨w.heap.size, 1, none⟩) (World.block_lt_of_cell? _ _ a1)).trans a1
    clear hH hb2 hr1 eH hk
    go_wp2_with fail
    refine hT.mono ?_
    rintro r w3 ⟨rfl, hb3⟩
    have hA := awake_any w3
    go_wp2_with fail
    refine hA.mono ?_
    rintro r w4 ⟨rfl, hb4⟩
    go_wp2_with fail
    go_ret
    exact ⟨rfl, hB2.trans ((hb3.trans (hb4.mono hb3.size)).mono hB2.size)⟩
  | true =>
    obtain ⟨_, _, hn0, hn6⟩ := chk_parts hk
    have hg : goC 0 0 ms = true := by
      have := hk
      unfold chk at this
      simp only [Bool.and_eq_true] at this
      exact this.2.2.2
    have hH := Head_any e p n c ms _ hr1 hn
    have eH : ∀ k, endM e ms k = atM ms k := fun k => by unfold endM; rw [hk]; rfl
    rw [eH] at hH
    have HP : Hid (pop (allN ms) = ms.length) := popN_all hg
    have HE : Hid (∀ k, endM e ms k = atM ms k) := eH
    simp only [if_true]
    go_wp2_with fail
    refine hH.mono ?_
    rintro r w2 ⟨rfl, hb2⟩
    have hB2 := hB1.trans (hb2.mono hB1.size)
    have hr2 := hr1.below hb2
    replace a0 := (hb2.cell (p := ⟨w.heap.size, 0, none⟩) (World.block_lt_of_cell? _ _ a0)).trans a0
    replace a1 := (hb2.cell (p := ⟨w.heap.size, 1, none⟩) (World.block_lt_of_cell? _ _ a1)).trans a1
    clear hH hb2 hr1 eH
    go_wp2_with fail
    go_loopg [3, 4, 5] n (fun gh s t v wr => ∃ k : Nat, k ≤ n ∧ n - k ≤ gh ∧ s = .int .u64 ((allN (ms.take k) : Nat) : Int) ∧ t = .int .i64 (atM ms ((k : Int) - 1)) ∧ v = .int .i64 (atM ms (k : Int)) ∧ Below w2.heap.size w2 wr)
    case atStart => exact ⟨0, Nat.zero_le _, Nat.le_refl _, rfl, rfl, rfl, Below.refl _ _⟩
    case round =>
      obtain ⟨k, hkn, hgh, rfl, rfl, rfl, hb⟩ := hrel
      have hBr := hB2.trans (hb.mono hB2.size)
      have hr3 := hr2.below hb
      have b0 := (hb.cell (p := ⟨w.heap.size, 0, none⟩) (World.block_lt_of_cell? _ _ a0)).trans a0
      have b1 := (hb.cell (p := ⟨w.heap.size, 1, none⟩) (World.block_lt_of_cell? _ _ a1)).trans a1
      by_cases h : k < n
      · have hkl : k < ms.length := by omega
        obtain ⟨hm1, hm2⟩ := goC_at hg hkl
        have hmb := (isMb_iff _).1 hm1
        have hsn := allN_snoc hkl
        have eN := next_at hk hkl 1
        have eB := next_at hk hkl (-1)
        have eA := atM_lt hkl
        have hxl : allN (ms.take k) < 18446744073709551616 := thN_lt _ _ _ (by decide)
        have hHs := fun W => has_any (allN (ms.take k)) (ms.getD k .z0).n W hxl
        have hBk := Back_any e p n c ms (ms.getD k .z0).n wr hr3 hn
        have hWi := fun W => with_any (allN (ms.take k)) (ms.getD k .z0).n W hxl
        rw [hm2] at hHs
        rw [← hsn] at hWi
        rw [eB] at hBk
        have HA : Hid (atM ms (k : Int) = (ms.getD k .z0).n) := eA
        rw [eA]
        have e1 : atM ms ((k : Int) + -1) = atM ms ((k : Int) - 1) := rfl
        rw [e1] at hBk
        have hge : (0 : Int) ≤ (ms.getD k .z0).n := hmb.1
        have hNx := fun W (hW : RdM W p n c ms) => Next_any e p n c ms (ms.getD k .z0).n W hW hn
        rw [eN] at hNx
        clear eB eN eA e1 hm2 hsn hm1 hmb
        generalize (ms.getD k .z0).n = node at *
        generalize atM ms ((k : Int) - 1) = la at *
        generalize allN (ms.take k) = X at *
        go_wp2_with fail
        refine (hHs _).mono ?_
        rintro r w3 ⟨rfl, hw3⟩
        subst hw3
        go_wp2_with fail
        refine hBk.mono ?_
        rintro r w4 ⟨rfl, hb4⟩
        have hr4 := hr3.below hb4
        have c0 := (hb4.cell (p := ⟨w.heap.size, 0, none⟩) (World.block_lt_of_cell? _ _ b0)).trans b0
        have c1 := (hb4.cell (p := ⟨w.heap.size, 1, none⟩) (World.block_lt_of_cell? _ _ b1)).trans b1
        go_wp2_with fail
        refine (hWi _).mono ?_
        rintro r w5 ⟨rfl, hw5⟩
        subst hw5
        go_wp2_with fail
        refine (hNx _ hr4).mono ?_
        rintro r w6 ⟨rfl, hb6⟩
        go_wp2_with fail
        go_roundg (n - (k + 1))
        case measure => omega
        case rel => exact ⟨k + 1, by omega, Nat.le_refl _, rfl, by rw [show (((k + 1 : Nat) : Int) - 1) = (k : Int) by omega, HA.out], rfl, hb.trans ((hb4.trans (hb6.mono hb4.size)).mono hb.size)⟩
      · obtain rfl : k = n := by omega
        have eA : atM ms (k : Int) = -1 := by unfold atM; rw [if_neg (by omega)]
        have eT : ms.take k = ms := List.take_of_length_le (by omega)
        rw [eA, eT]
        have hrW := fun d os => hr3.below (below_regrown wr d os)
        have k0 := cell_regrown b0
        have k1 := cell_regrown b1
        have hxl : allN ms < 18446744073709551616 := thN_lt _ _ _ (by decide)
        have c1 := fun d os => Calls.regrown_of (Nodes_any e p k c ms _ (hrW d os) hn)
        have c2 : ∀ d os, Calls Try.prog 30 #[.int .u64 (allN ms)] (Sort.grow (redrawn wr d) os) fun e w'' => e = .returned (.int .i64 (pop (allN ms))) ∧ ∃ p : Regrown, w'' = Sort.grow (redrawn wr p.d) p.os := fun d os => Calls.regrown_of ((len_any (allN ms) _ hxl).mono fun _ _ ⟨h1, h2⟩ => ⟨h1, by rw [h2]; exact Below.refl _ _⟩)
        have c3 := fun d os => Calls.regrown_of (Tail_any e p k c ms _ (hrW d os) hn)
        have c4 := fun d os => Calls.regrown_of (awake_any (Sort.grow (redrawn wr d) os))
        rw [HE.out] at c3
        rw [HP.out, hl] at c2
        have e9 : thN (fun _ => true) 0 ms = allN ms := rfl
        rw [e9] at c1
        generalize allN ms = X at *
        generalize atM ms ((k : Int) - 1) = la at *
        clear hrW hr3 hr2 eA eT HE
        go_wp2_with fail
        refine wp_region_quiet_below (by kernel_rfl) (by kernel_rfl) ?_
        repeat (quiet_step (first | (go_at_call 22; exact c1 _ _) | (go_at_call 30; exact c2 _ _) | (go_at_call 21; exact c3 _ _) | (go_at_call 9; exact c4 _ _)))
        refine wpQuiet_nil ?_
        intro _ hw'
        obtain ⟨⟨dq, osq⟩, hw''⟩ := hw'
        subst hw''
        have hbq := below_regrown wr dq osq
        go_wp2_with fail
        go_ret
        exact ⟨rfl, hBr.trans (hbq.mono hBr.size)⟩

end Go.Proofs.Ytnhdfojbffaifaa.M
