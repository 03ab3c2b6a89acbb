/-
  Own text: members sorted by how near they are: the contract of the library's stable sort of fewer than 20 members by route's 'nearer'.
-/
import Derived.Test.YtdjeafaaclhpkaaZSortP
import Derived.Lib.QuietBelow
import Derived.BigRegion
namespace Go.Proofs.Ytdjeafaaclhpkaa.M
open Go.ChangeShapes Go.WideShapes Go.ChangeAt Go.RowKit

theorem swp_all {P : Mb → Prop} {L : List Mb} {j : Nat} (h : ∀ m ∈ L, P m) (hj : j + 1 < L.length) : ∀ m ∈ swp L j, P m := by
  intro m hm
  unfold swp at hm
  rcases List.mem_or_eq_of_mem_set hm with h1 | h1
  · rcases List.mem_or_eq_of_mem_set h1 with h2 | h2
    · exact h m h2
    · rw [h2]; exact h _ (getD_mb (by omega))
  · rw [h1]; exact h _ (getD_mb (by omega))

theorem cfNr : Cf 49 := fun args w => cf_of Try.func49 (by kernel_rfl) (by kernel_rfl) args w

set_option maxRecDepth 20000 in
set_option maxHeartbeats 2000000 in
theorem insNear_any (a0 a1 a2 a3 a4 a5 a6 a7 a8 : Int) (i0 : Nat) (hi0 : i0 < 3) (w : World) (g N : Nat) (L : List Mb) (a b : Nat) (hR : Row w g N L) (hab : a ≤ b) (hbn : b ≤ L.length) (hn : L.length ≤ 1099511627776) (hs : ∀ m ∈ L, atSite m) :
    Calls Try.prog 55 #[.slice (some ⟨g, 0, none⟩) L.length N, .int .i64 a, .int .i64 b, .func (.func 49) #[.agg #[.int .i64 a0, .int .i64 a1, .int .i64 a2, .int .i64 a3, .int .i64 a4, .int .i64 a5, .int .i64 a6, .int .i64 a7, .int .i64 a8, .int .i64 (i0 : Int)]] #[]] w fun e w' => e = .returned (.tuple #[]) ∧ Row w' g N (outC (nrC [a0, a1, a2, a3, a4, a5, a6, a7, a8] i0) a (b - (a + 1)) (a + 1) L) ∧ Ex g w w' := by
  have hNl := hR.le
  generalize hn0 : L.length = n at *
  go_enter Try.func55, Try.ntmps55
  go_wp2_with fail
  go_loopw [8] (fun i wr => ∃ (k : Nat) (M : List Mb), a + 1 ≤ k ∧ (k ≤ b ∨ k = a + 1) ∧ i = .int .i64 k ∧ M.length = n ∧ Hid (∀ m ∈ M, atSite m) ∧ Hid (outC (nrC [a0, a1, a2, a3, a4, a5, a6, a7, a8] i0) a (b - (a + 1)) (a + 1) L = outC (nrC [a0, a1, a2, a3, a4, a5, a6, a7, a8] i0) a (b - k) k M) ∧ Row wr g N M ∧ Ex g w wr) (fun i _ => b - (intOf i).toNat)
  case atStart => exact ⟨a + 1, L, Nat.le_refl _, Or.inr rfl, by go_num, hn0, hs, rfl, hR, Ex.refl _ _⟩
  case round =>
    clear hR
    obtain ⟨k, M, hk1, hk2, rfl, hM, HM, HO, hR, hb⟩ := hrel
    by_cases h : k < b
    · have hkb : (k : Int) < (b : Int) := by omega
      have HO2 : Hid (outC (nrC [a0, a1, a2, a3, a4, a5, a6, a7, a8] i0) a (b - (a + 1)) (a + 1) L = outC (nrC [a0, a1, a2, a3, a4, a5, a6, a7, a8] i0) a (b - (k + 1)) (k + 1) (innC (nrC [a0, a1, a2, a3, a4, a5, a6, a7, a8] i0) a k M)) := by
        unfold Hid; rw [HO.out, show b - k = (b - (k + 1)) + 1 by omega]; rfl
      clear HO
      have hk3 : k < n := by omega
      generalize hIN : innC (nrC [a0, a1, a2, a3, a4, a5, a6, a7, a8] i0) a k M = IN at HO2
      have HI0 : Hid (innC (nrC [a0, a1, a2, a3, a4, a5, a6, a7, a8] i0) a k M = IN) := hIN
      clear hIN
      go_wp2_with fail
      obtain ⟨w5, hw5⟩ : ∃ x, x = wr := ⟨wr, rfl⟩
      go_loopw [9] (fun j wr => ∃ (i : Nat) (M : List Mb), a ≤ i ∧ i ≤ k ∧ j = .int .i64 i ∧ M.length = n ∧ Hid (∀ m ∈ M, atSite m) ∧ Hid (innC (nrC [a0, a1, a2, a3, a4, a5, a6, a7, a8] i0) a i M = IN) ∧ Row wr g N M ∧ Ex g w wr) (fun j _ => (intOf j).toNat)
      case atStart => exact ⟨k, M, by omega, Nat.le_refl _, rfl, hM, HM, HI0, hR, hb⟩
      case round =>
        clear hR hb HI0 hM HM hw5 w5 M
        obtain ⟨i, M, hi1, hi2, rfl, hM, HM, HI, hR, hb⟩ := hrel
        by_cases hia : a < i
        · obtain ⟨j, rfl⟩ : ∃ j, i = j + 1 := ⟨i - 1, by omega⟩
          obtain ⟨x1, x2, x3⟩ := hR.at (i := j + 1) (by omega)
          obtain ⟨y1, y2, y3⟩ := hR.at (i := j) (by omega)
          have hHI := HI.out
          have hba : decide ((a : Int) < (j : Int) + 1) = true := decide_eq_true (by omega)
          have hjn : (j : Int) + 1 < (n : Int) := by omega
          have hjn1 : (j : Int) < (n : Int) := by omega
          have p0 : (0 : Int) ≤ (j : Int) + 1 := by omega
          have e0 : ((j : Int) + 1).toNat = j + 1 := by omega
          have hwp : IntKind.i64.wrap (j : Int) = (j : Int) := by rw [IntKind.wrap_i64]; omega
          have hC := fun W => nearer_any a0 a1 a2 a3 a4 a5 a6 a7 a8 i0 hi0 (M.getD (j + 1) .z0) (M.getD j .z0) (HM.out _ (getD_mb (by omega))) (HM.out _ (getD_mb (by omega))) W
          unfold innC at hHI
          have HI2 : Hid ((if a < j + 1 ∧ nrC [a0, a1, a2, a3, a4, a5, a6, a7, a8] i0 (M.getD (j + 1) .z0) (M.getD j .z0) < 0 then innC (nrC [a0, a1, a2, a3, a4, a5, a6, a7, a8] i0) a j (swp M j) else M) = IN) := hHI
          clear hHI HI
          have HS : Hid (swp M j = (M.set (j + 1) (M.getD j .z0)).set j (M.getD (j + 1) .z0)) := rfl
          have HM2 : Hid (∀ m ∈ swp M j, atSite m) := swp_all HM.out (by omega)
          obtain ⟨cz, hcz0⟩ : ∃ z, nrC [a0, a1, a2, a3, a4, a5, a6, a7, a8] i0 (M.getD (j + 1) .z0) (M.getD j .z0) = z := ⟨_, rfl⟩
          rw [hcz0] at HI2 hC
          clear hcz0
          generalize M.getD (j + 1) .z0 = X at *
          generalize M.getD j .z0 = Y at *
          obtain ⟨Xn, Xs, Xf⟩ := X
          obtain ⟨Yn, Ys, Yf⟩ := Y
          dsimp only at x1 x2 x3 y1 y2 y3 hC HI2
          have k1 := cell_regrown x1
          have k2 := cell_regrown x2
          have k3 := cell_regrown x3
          have l1 := cell_regrown y1
          have l2 := cell_regrown y2
          have l3 := cell_regrown y3
          have hlt := hR.lt
          by_cases hlv : cz < 0
          · have hzd : decide (cz < 0) = true := decide_eq_true hlv
            have cC : ∀ d os, Calls Try.prog 49 #[.agg #[.int .i64 a0, .int .i64 a1, .int .i64 a2, .int .i64 a3, .int .i64 a4, .int .i64 a5, .int .i64 a6, .int .i64 a7, .int .i64 a8, .int .i64 (i0 : Int)], .agg #[.int .i64 Xn, .int .i64 Xs, .bool Xf], .agg #[.int .i64 Yn, .int .i64 Ys, .bool Yf]] (Sort.grow (redrawn wr d) os) fun e w'' => e = .returned (.int .i64 cz) ∧ ∃ p : Regrown, w'' = Sort.grow (redrawn wr p.d) p.os := fun d os => Calls.regrown_of (hC _)
            have HI3 : Hid (innC (nrC [a0, a1, a2, a3, a4, a5, a6, a7, a8] i0) a j (swp M j) = IN) := by
              have := HI2.out
              rwa [if_pos ⟨by omega, hlv⟩] at this
            clear HI2 hC
            go_wp2_with fail
            refine wp_region_quiet_below (by kernel_rfl) (by kernel_rfl) ?_
            repeat (quiet_step (first | exact cC _ _))
            refine wpQuiet_nil ?_
            intro _ hw'
            obtain ⟨⟨dq, osq⟩, hw''⟩ := hw'
            subst hw''
            have hbq := below_regrown wr dq osq
            have hR2 := hR.up hbq
            go_wp2_with fail
            replace x1 := k1 dq osq
            replace x2 := k2 dq osq
            replace x3 := k3 dq osq
            replace y1 := l1 dq osq
            replace y2 := l2 dq osq
            replace y3 := l3 dq osq
            have hb2 := hb.trans (Ex.of_below (g := g) hbq)
            clear k1 k2 k3 l1 l2 l3 cC hbq hR hb
            generalize Sort.grow (redrawn wr dq) osq = W2 at *
            have f1 : W2.frozen? ⟨g, (j + 1) * 3, none⟩ = false := (hR2.thereAt (i := j + 1) (by omega) 0 (by decide)).2
            have f2 : W2.frozen? ⟨g, (j + 1) * 3 + 1, none⟩ = false := (hR2.thereAt (i := j + 1) (by omega) 1 (by decide)).2
            have f3 : W2.frozen? ⟨g, (j + 1) * 3 + 2, none⟩ = false := (hR2.thereAt (i := j + 1) (by omega) 2 (by decide)).2
            have f4 : W2.frozen? ⟨g, j * 3, none⟩ = false := (hR2.thereAt (i := j) (by omega) 0 (by decide)).2
            have f5 : W2.frozen? ⟨g, j * 3 + 1, none⟩ = false := (hR2.thereAt (i := j) (by omega) 1 (by decide)).2
            have f6 : W2.frozen? ⟨g, j * 3 + 2, none⟩ = false := (hR2.thereAt (i := j) (by omega) 2 (by decide)).2
            have hR3 : Row ((((((W2.setCell ⟨g, (j + 1) * 3, none⟩ (.int .i64 Yn)).setCell ⟨g, (j + 1) * 3 + 1, none⟩ (.int .i64 Ys)).setCell ⟨g, (j + 1) * 3 + 2, none⟩ (.bool Yf)).setCell ⟨g, j * 3, none⟩ (.int .i64 Xn)).setCell ⟨g, j * 3 + 1, none⟩ (.int .i64 Xs)).setCell ⟨g, j * 3 + 2, none⟩ (.bool Xf)) g N (swp M j) := by
              rw [HS.out]
              exact (hR2.set (i := j + 1) (by omega) ⟨Yn, Ys, Yf⟩).set (i := j) (by rw [List.length_set]; omega) ⟨Xn, Xs, Xf⟩
            have hb3 : Ex g w ((((((W2.setCell ⟨g, (j + 1) * 3, none⟩ (.int .i64 Yn)).setCell ⟨g, (j + 1) * 3 + 1, none⟩ (.int .i64 Ys)).setCell ⟨g, (j + 1) * 3 + 2, none⟩ (.bool Yf)).setCell ⟨g, j * 3, none⟩ (.int .i64 Xn)).setCell ⟨g, j * 3 + 1, none⟩ (.int .i64 Xs)).setCell ⟨g, j * 3 + 2, none⟩ (.bool Xf)) :=
              Ex.setC (Mb.cs ⟨Xn, Xs, Xf⟩) (j * 3) _ (Ex.setC (Mb.cs ⟨Yn, Ys, Yf⟩) ((j + 1) * 3) _ hb2)
            go_region
            generalize ((((((W2.setCell ⟨g, (j + 1) * 3, none⟩ (.int .i64 Yn)).setCell ⟨g, (j + 1) * 3 + 1, none⟩ (.int .i64 Ys)).setCell ⟨g, (j + 1) * 3 + 2, none⟩ (.bool Yf)).setCell ⟨g, j * 3, none⟩ (.int .i64 Xn)).setCell ⟨g, j * 3 + 1, none⟩ (.int .i64 Xs)).setCell ⟨g, j * 3 + 2, none⟩ (.bool Xf)) = W3 at *
            go_wp2_with fail
            go_roundw
            case rel => exact ⟨j, swp M j, by omega, by omega, by go_num, by rw [swp_len]; exact hM, HM2, HI3, hR3.up ((Below.refl _ _).drew), hb3.drew⟩
            case measure => simp [intOf]
          · have hzd : decide (cz < 0) = false := decide_eq_false hlv
            have cC : ∀ d os, Calls Try.prog 49 #[.agg #[.int .i64 a0, .int .i64 a1, .int .i64 a2, .int .i64 a3, .int .i64 a4, .int .i64 a5, .int .i64 a6, .int .i64 a7, .int .i64 a8, .int .i64 (i0 : Int)], .agg #[.int .i64 Xn, .int .i64 Xs, .bool Xf], .agg #[.int .i64 Yn, .int .i64 Ys, .bool Yf]] (Sort.grow (redrawn wr d) os) fun e w'' => e = .returned (.int .i64 cz) ∧ ∃ p : Regrown, w'' = Sort.grow (redrawn wr p.d) p.os := fun d os => Calls.regrown_of (hC _)
            have HN : Hid (M = IN) := by
              have := HI2.out
              rwa [if_neg (fun h => hlv h.2)] at this
            clear HI2 hC
            go_wp2_with fail
            refine wp_region_quiet_below (by kernel_rfl) (by kernel_rfl) ?_
            repeat (quiet_step (first | exact cC _ _))
            refine wpQuiet_nil ?_
            intro _ hw'
            obtain ⟨⟨dq, osq⟩, hw''⟩ := hw'
            subst hw''
            have hbq := below_regrown wr dq osq
            have hR2 := hR.up hbq
            have hb2 := hb.trans (Ex.of_below (g := g) hbq)
            clear k1 k2 k3 l1 l2 l3 cC hbq hR hb
            generalize Sort.grow (redrawn wr dq) osq = W2 at *
            go_wp2_with fail
            go_roundw
            case rel => exact ⟨k + 1, M, by omega, Or.inl (by omega), by go_num, hM, HM, by unfold Hid; rw [HO2.out, ← HN.out], hR2, hb2⟩
            case measure => simp [intOf]; omega
        · obtain rfl : i = a := by omega
          have hdz : decide ((i : Int) < (i : Int)) = false := decide_eq_false (by omega)
          have HN : Hid (M = IN) := by
            have := HI.out
            cases i with
            | zero => exact this
            | succ j =>
              unfold innC at this
              rwa [if_neg (fun h => Nat.lt_irrefl _ h.1)] at this
          clear HI
          go_wp2_with fail
          go_quiet (fail)
          go_wp2_with fail
          go_roundw
          case rel => exact ⟨k + 1, M, by omega, Or.inl (by omega), by go_num, hM, HM, by unfold Hid; rw [HO2.out, ← HN.out], hR.up (below_drewN (Below.refl _ _) nq), hb.drewN nq⟩
          case measure => simp [intOf]; omega
    · have hkb : ¬ (k : Int) < (b : Int) := by omega
      have HN : Hid (outC (nrC [a0, a1, a2, a3, a4, a5, a6, a7, a8] i0) a (b - (a + 1)) (a + 1) L = M) := by
        unfold Hid; rw [HO.out, show b - k = 0 by omega]; rfl
      clear HO
      go_wp2_with fail
      go_end0
      exact ⟨rfl, by rw [HN.out]; exact hR, hb⟩

set_option maxRecDepth 20000 in
set_option maxHeartbeats 2000000 in
theorem stableNear_any (a0 a1 a2 a3 a4 a5 a6 a7 a8 : Int) (i0 : Nat) (hi0 : i0 < 3) (w : World) (g N : Nat) (L : List Mb) (hR : Row w g N L) (hn : L.length < 20) (hs : ∀ m ∈ L, atSite m) :
    Calls Try.prog 53 #[.slice (some ⟨g, 0, none⟩) L.length N, .int .i64 L.length, .func (.func 49) #[.agg #[.int .i64 a0, .int .i64 a1, .int .i64 a2, .int .i64 a3, .int .i64 a4, .int .i64 a5, .int .i64 a6, .int .i64 a7, .int .i64 a8, .int .i64 (i0 : Int)]] #[]] w fun e w' => e = .returned (.tuple #[]) ∧ Row w' g N (outC (nrC [a0, a1, a2, a3, a4, a5, a6, a7, a8] i0) 0 (L.length - 1) 1 L) ∧ Ex g w w' := by
  have hI := insNear_any a0 a1 a2 a3 a4 a5 a6 a7 a8 i0 hi0 w g N L 0 L.length hR (Nat.zero_le _) (Nat.le_refl _) (by omega) hs
  rw [Nat.zero_add] at hI
  generalize outC (nrC [a0, a1, a2, a3, a4, a5, a6, a7, a8] i0) 0 (L.length - 1) 1 L = M at *
  generalize L.length = n at *
  clear hR
  go_enter Try.func53, Try.ntmps53
  go_wp2_with fail
  go_loopw [7, 8] (fun u v wr => u = .int .i64 0 ∧ v = .int .i64 20 ∧ wr = w) (fun _ _ _ => 0)
  case atStart => exact ⟨rfl, rfl, rfl⟩
  case round =>
    obtain ⟨rfl, rfl, rfl⟩ := hrel
    have h20 : ¬ (20 : Int) ≤ (n : Int) := by omega
    have h21 : ¬ (20 : Int) < (n : Int) := by omega
    go_wp2_with fail
    refine hI.mono ?_
    rintro r w1 ⟨rfl, hR1, hb1⟩
    go_wp2_with fail
    go_loopw [6] (fun v wr => v = .int .i64 20 ∧ wr = w1) (fun _ _ => 0)
    case atStart => exact ⟨rfl, rfl⟩
    case round =>
      obtain ⟨rfl, rfl⟩ := hrel
      go_wp2_with fail
      go_end0
      exact ⟨rfl, hR1, hb1⟩

set_option maxRecDepth 20000 in
theorem sortNear_any (a0 a1 a2 a3 a4 a5 a6 a7 a8 : Int) (i0 : Nat) (hi0 : i0 < 3) (w : World) (g N : Nat) (L : List Mb) (hR : Row w g N L) (hn : L.length < 20) (hs : ∀ m ∈ L, atSite m) :
    Calls Try.prog 48 #[.slice (some ⟨g, 0, none⟩) L.length N, .func (.func 49) #[.agg #[.int .i64 a0, .int .i64 a1, .int .i64 a2, .int .i64 a3, .int .i64 a4, .int .i64 a5, .int .i64 a6, .int .i64 a7, .int .i64 a8, .int .i64 (i0 : Int)]] #[]] w fun e w' => e = .returned (.tuple #[]) ∧ Row w' g N (outC (nrC [a0, a1, a2, a3, a4, a5, a6, a7, a8] i0) 0 (L.length - 1) 1 L) ∧ Ex g w w' := by
  have hI := stableNear_any a0 a1 a2 a3 a4 a5 a6 a7 a8 i0 hi0 w g N L hR hn hs
  generalize outC (nrC [a0, a1, a2, a3, a4, a5, a6, a7, a8] i0) 0 (L.length - 1) 1 L = M at *
  generalize L.length = n at *
  clear hR
  go_enter Try.func48, Try.ntmps48
  go_wp2_with fail
  refine hI.mono ?_
  rintro r w1 ⟨rfl, hR1, hb1⟩
  go_wp2_with fail
  go_end0
  exact ⟨rfl, hR1, hb1⟩

end Go.Proofs.Ytdjeafaaclhpkaa.M
