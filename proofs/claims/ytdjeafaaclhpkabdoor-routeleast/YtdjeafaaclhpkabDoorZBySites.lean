/-
  Own text: the contract of route's bySites.
-/
import Derived.Test.YtdjeafaaclhpkabDoorZBestP
import Derived.Test.YtdjeafaaclhpkabDoorZOwn
import Derived.Test.YtdjeafaaclhpkabDoorZCheck
namespace Go.Proofs.YtdjeafaaclhpkabDoor.M
open Go.ChangeShapes Go.WideShapes Go.ChangeAt Go.RowKit

set_option maxRecDepth 20000 in
set_option maxHeartbeats 2000000 in
theorem bySites_any (p : Option Addr) (n c : Nat) (ms : List Mb) (o0 o1 o2 : Int) (w : World) (hr : RdM w p n c ms) (hn : n ≤ 60) :
    Calls Tryd.prog 14 #[.slice p n c, .agg #[.int .i64 o0, .int .i64 o1, .int .i64 o2]] w fun r w' => ∃ q d, r = .returned (.slice q (bS ms o0 o1 o2).length d) ∧ RdM w' q (bS ms o0 o1 o2).length d (bS ms o0 o1 o2) ∧ Below w.heap.size w w' := by
  have hb0 : Below w.heap.size w (w.alloc (.cells #[.int .i64 o0, .int .i64 o1, .int .i64 o2] 23)) := (Below.refl _ _).alloc (Nat.le_refl _) _
  have hl := hr.len
  have hr0 := hr.below hb0
  obtain ⟨i0, hi0, hz0, hz1, hz2⟩ := info_parts infoM
  clear hr
  go_enter Tryd.func14, Tryd.ntmps14
  go_wp2_with fail
  generalize (w.alloc (.cells #[.int .i64 o0, .int .i64 o1, .int .i64 o2] 23)) = w0 at *
  generalize hB : w0.heap.size = B at *
  go_loopw [5, 11] (fun v i wr => ∃ t : Nat, t ≤ 3 ∧ i = .int .i64 t ∧ OwM wr B v (bSk ms o0 o1 o2 t 0) ∧ Below B w0 wr) (fun _ i _ => 3 - (intOf i).toNat)
  case atStart => exact ⟨0, by decide, rfl, OwM.nil _ _, Below.refl _ _⟩
  case round =>
    obtain ⟨t, ht, rfl, ho, hb⟩ := hrel
    by_cases htt : t < 3
    · have hti : (t : Int) < 3 := by omega
      have hix := fun W => idx3 o0 o1 o2 t htt W
      obtain ⟨sv, HSV⟩ : ∃ s, Hid (oj o0 o1 o2 t = s) := ⟨_, rfl⟩
      change ∀ W, _ = Result.ok (Value.int .i64 (oj o0 o1 o2 t)) W at hix
      rw [HSV.out] at hix
      go_wp2_with fail
      obtain ⟨w5, hw5⟩ : ∃ x, x = wr := ⟨wr, rfl⟩
      go_loopw [5, 16] (fun v i wr => ∃ k : Nat, k ≤ n ∧ i = .int .i64 k ∧ OwM wr B v (bSk ms o0 o1 o2 t k) ∧ Below B w0 wr) (fun _ i _ => n - (intOf i).toNat)
      case atStart => exact ⟨0, Nat.zero_le _, rfl, ho, hb⟩
      case round =>
        clear ho hb hw5 hix
        obtain ⟨k, hk, rfl, ho, hb⟩ := hrel
        have hbW : Below w0.heap.size w0 wr := by rw [hB]; exact hb
        by_cases h : k < n
        · obtain ⟨g1, o1', rfl, c1⟩ := (hr0.below hbW).cells (by omega)
          obtain ⟨x1, x2, x3⟩ := c1 k h
          have hk1 : (k : Int) < (n : Int) := by omega
          have HS : Hid (bSk ms o0 o1 o2 t (k + 1) = bSk ms o0 o1 o2 t k ++ (if (ms.getD k .z0).s = sv then [ms.getD k .z0] else [])) := by unfold Hid; rw [← HSV.out]; exact bSk_step ms o0 o1 o2 t k (by omega)
          have hll : (bSk ms o0 o1 o2 t k).length ≤ 240 := Nat.le_trans (bSk_len ms o0 o1 o2 t k ht) (by omega)
          clear c1
          generalize ms.getD k .z0 = f at *
          obtain ⟨fn, fs, ff⟩ := f
          dsimp only at x1 x2 x3 HS
          generalize bSk ms o0 o1 o2 t k = ys at *
          have hba : Below wr.heap.size wr (wr.alloc (.cells #[.int .i64 fn, .int .i64 fs, .bool ff] 39)) := (Below.refl _ _).alloc (Nat.le_refl _) _
          have hoa := ho.below hba
          have hsz : B ≤ (wr.alloc (.cells #[.int .i64 fn, .int .i64 fs, .bool ff] 39)).heap.size := by rw [← hB]; exact Nat.le_trans hbW.size hba.size
          have hbb := hb.trans (hba.mono (by rw [← hB]; exact hbW.size))
          obtain ⟨d0, d1, d2⟩ := (At.new 39 wr #[.int .i64 fn, .int .i64 fs, .bool ff]).three
          by_cases hs : fs = sv
          · have HT : Hid (bSk ms o0 o1 o2 t (k + 1) = ys ++ [⟨fn, fs, ff⟩]) := by unfold Hid; rw [HS.out, if_pos hs]
            have hsb : (fs == sv) = true := by simp [hs]
            clear HS hs
            have hb2 := below_alloc (wr.alloc (.cells #[.int .i64 fn, .int .i64 fs, .bool ff] 39)) (.cells #[.int .i64 fn, .int .i64 fs, .bool ff] 39)
            have hob := hoa.below hb2
            have hbc := hbb.trans (hb2.mono hsz)
            obtain ⟨e0, e1, e2⟩ := ((At.new 39 (wr.alloc (.cells #[.int .i64 fn, .int .i64 fs, .bool ff] 39)) #[.int .i64 fn, .int .i64 fs, .bool ff]).moved (g2 := wr.heap.size + 1) (by simp)).three
            go_wp2_with (at_builtin; refine wpList_appOwM _ rfl (.tmp 24) (.tmp 26) 22 rfl i0 (.agg #[.int .i64 0, .int .i64 0, .bool false]) Tryd.underlying22 hi0 hz0 hz1 hz2 rfl B _ ys rfl hob (wr.heap.size + 1) 1 ⟨fn, fs, ff⟩ rfl e0 e1 e2 (by omega) (Nat.le_trans hsz hb2.size) ?_)
            intro v6 w6 ho2 hb4
            go_wp2_with fail
            go_roundw
            case rel => exact ⟨k + 1, by omega, by go_num, by rw [HT.out]; exact ho2, hbc.trans hb4⟩
            case measure => simp [intOf]; omega
          · have HT : Hid (bSk ms o0 o1 o2 t (k + 1) = ys) := by unfold Hid; rw [HS.out, if_neg hs, List.append_nil]
            have hsb : (fs == sv) = false := by simp [hs]
            clear HS hs
            go_wp2_with fail
            go_roundw
            case rel => exact ⟨k + 1, by omega, by go_num, by rw [HT.out]; exact hoa, hbb⟩
            case measure => simp [intOf]; omega
        · obtain rfl : k = n := by omega
          have hki : ¬ (k : Int) < (k : Int) := by omega
          rw [bSk_end _ _ _ _ _ _ (by omega)] at ho
          go_wp2_with fail
          go_roundw
          case rel => exact ⟨t + 1, by omega, by go_num, ho, hb⟩
          case measure => simp [intOf]; omega
    · obtain rfl : t = 3 := by omega
      obtain ⟨q, d, hv, _, hrd⟩ := ho.rd
      subst hv
      have hbz := hb0.trans (hb.mono (by rw [← hB]; exact hb0.size))
      clear ho hb
      go_wp2_with fail
      go_ret
      exact ⟨q, d, rfl, hrd, hbz⟩

/-- The orders of sites, as they are tried. -/
def ordL : List Int := [0, 1, 2, 0, 2, 1, 1, 0, 2, 1, 2, 0, 2, 0, 1, 2, 1, 0]

theorem ord_is : ∀ k, k < 6 → isOrd (ordL.getD (k * 3) 0) (ordL.getD (k * 3 + 1) 0) (ordL.getD (k * 3 + 2) 0) := by
  intro k hk
  obtain rfl | rfl | rfl | rfl | rfl | rfl : k = 0 ∨ k = 1 ∨ k = 2 ∨ k = 3 ∨ k = 4 ∨ k = 5 := by omega
  all_goals (refine ⟨fun s h1 h2 => ?_, by decide, by decide, by decide⟩; simp [ordL]; omega)

end Go.Proofs.YtdjeafaaclhpkabDoor.M
